/- Contracts over this seat's translation, laid together; conditions stand as hypotheses of each. -/
import Derived.Test.YtboedaofbchdkaaGreatDoorRsT
import Derived.Test.YtboedaofbchdkaaGreatDoorRsU
namespace Go.Proofs.YtboedaofbchdkaaGreatDoor
open Go.ChangeShapes Go.WideShapes Go.ChangeAt Go.RowKit
set_option maxHeartbeats 16000000
set_option linter.unusedVariables false
set_option maxRecDepth 8000
set_option linter.unusedSimpArgs false
theorem ok_op0 {i : Is} (h : i.op = 0) : i.ok = false := by
 cases e : i.ok
 · rfl
 · have := (is_ok e).1; omega
theorem decI_any (a : Option Addr) (len cap : Nat) (ns : List Int) (i : Int) (w : World) (ht : Tab w) (hl : ns.length = len) (hm : len ≤ 1099511627776) (hr : RdN w a ns) (hbd : Bds ns) :
  Calls Tryz.prog 57 #[.slice a len cap, .int .i64 i] w fun e w' => e = .returned (decV ns i) ∧ Below w.heap.size w w' := by
 by_cases hi : i < 0 ∨ (len : Int) ≤ i
 · exact decI_out a len cap ns i w hl hm hi
 obtain ⟨p, rfl⟩ := Int.eq_ofNat_of_zero_le (show 0 ≤ i by omega)
 have hp : p < len := by omega
 rcases hr with h0 | ⟨b, off, rfl, hb, hc⟩
 · rw [h0] at hl; simp at hl; omega
 have hn2 := (hbd p (by omega)).2
 have hI1 : inB (p : Int) 0 ((ns.length : Int) - 1) = true := inB_tQ _ _ _ (by omega)
 by_cases hin : 0 ≤ nAt ns p ∧ nAt ns p ≤ 65535
 ·
  have hIn : decIn ns (p : Int) = true := by
   unfold decIn
   rw [hI1, Int.toNat_natCast, inB_tQ _ _ _ hin]
   rfl
  have hdI : dI (nAt ns p) = dOp (nAt ns p) := by unfold dI; rw [if_pos hin]
  have hO := decOk_in hIn
  rw [Int.toNat_natCast] at hO
  obtain ⟨op, sm, sr, dm, dr, x, hD, ho1, ho2, hs, hd⟩ := dOp_form (nAt ns p) hin.1 hin.2
  have hokD : okD (nAt ns p) = !(op == 0) := by unfold okD; rw [hdI, hD]
  have hXop : (decX ns (p : Int)).op = op := by unfold decX; rw [Int.toNat_natCast, hD]; rfl
  by_cases hz : op = 0
  ·
   have hno : decOk ns (p : Int) = false := by rw [hO, ok_op0 (hXop.trans hz), Bool.and_false]
   exact decI_none b off len cap ns p _ w ht hl hm hb hc hp rfl hn2 op sm sr dm dr x (hdI.trans hD) (by rw [hokD, hz]; rfl) hno
  ·
   have hok : okD (nAt ns p) = true := by rw [hokD]; simp [hz]
   have hneed : (dOp (nAt ns p)).need = oneX (Od.hasX ⟨sm, sr, 0⟩) + oneX (Od.hasX ⟨dm, dr, 0⟩) := by rw [hD]; rfl
   have hwords : Is.words ⟨op, ⟨sm, sr, 0⟩, ⟨dm, dr, 0⟩, x⟩ = 1 + ((oneX (Od.hasX ⟨sm, sr, 0⟩) + oneX (Od.hasX ⟨dm, dr, 0⟩) : Nat) : Int) := by
    unfold Is.words
    simp only
    have e1 : (inB op 1 6 && Od.hasX ⟨sm, sr, 0⟩) = Od.hasX ⟨sm, sr, 0⟩ := by
     by_cases h6 : op ≤ 6
     · rw [inB_tQ _ _ _ ⟨by omega, h6⟩, Bool.true_and]
     · rw [hs (by omega), Bool.and_false]
    have e2 : (inB op 1 15 && Od.hasX ⟨dm, dr, 0⟩) = Od.hasX ⟨dm, dr, 0⟩ := by
     by_cases h15 : op ≤ 15
     · rw [inB_tQ _ _ _ ⟨by omega, h15⟩, Bool.true_and]
     · rw [hd (by omega), Bool.and_false]
    rw [e1, e2]
    cases Od.hasX ⟨sm, sr, 0⟩ <;> cases Od.hasX ⟨dm, dr, 0⟩ <;> rfl
   rw [hneed] at hO
   by_cases hfit : p + 1 + (oneX (Od.hasX ⟨sm, sr, 0⟩) + oneX (Od.hasX ⟨dm, dr, 0⟩)) ≤ len
   ·
    have hX : decX ns (p : Int) = ⟨op, ⟨sm, sr, if Od.hasX ⟨sm, sr, 0⟩ = true then nAt ns (p + 1) else 0⟩, ⟨dm, dr, if Od.hasX ⟨dm, dr, 0⟩ = true then nAt ns (p + 1 + oneX (Od.hasX ⟨sm, sr, 0⟩)) else 0⟩, x⟩ := by
     unfold decX
     rw [Int.toNat_natCast, hD]
     rfl
    rw [hl, decide_eq_true hfit, Bool.true_and, hX] at hO
    exact decI_in b off len cap ns p _ w ht hl hm hb hc hp rfl hn2 op sm sr dm dr x _ _ _ _ (hdI.trans hD) hok rfl rfl rfl rfl hwords hfit hX (by rw [Int.toNat_natCast]; exact hneed) hO
   ·
    rw [hl, decide_eq_false hfit, Bool.false_and] at hO
    exact decI_short b off len cap ns p _ w ht hl hm hb hc hp rfl hn2 op sm sr dm dr x (hdI.trans hD) hok (by rw [hwords]; omega) hO
 ·
  have hno : decOk ns (p : Int) = false := decOk_out (by
   unfold decIn
   rw [Int.toNat_natCast, inB_fQ (nAt ns p) 0 65535 (by omega), Bool.and_false])
  have hdI : dI (nAt ns p) = ⟨0, ⟨0, 0, 0⟩, ⟨0, 0, 0⟩, 0⟩ := by unfold dI; rw [if_neg hin]; rfl
  exact decI_none b off len cap ns p _ w ht hl hm hb hc hp rfl hn2 0 0 0 0 0 0 hdI (by unfold okD; rw [hdI]; rfl) hno
theorem answerE_any (g B : Nat) (mem ms : List Int) (y : Mv) (w : World) (hm : mem.length = 256) (hg : w.heap[g]? = some (.cells (bigA mem y) 69 (0, 0))) (ho : OwnN w B y.m.v ms) (hB : some g ≠ y.m.v.ownBlock) :
  Calls Tryz.prog 44 #[.pointer (some ⟨g, 0, none⟩)] w fun e w' => e = .returned (.agg y.cs) ∧ OwnN w' B y.m.v (mem.take ms.length ++ ms.drop 256) ∧ w.grownBy w' y.m.v.ownBlock := by
 have b1 := (below_new w (.cells #[Value.slice none 0 0, Value.slice none 0 0, Value.bool false, Value.bool false, Value.bool false, Value.bool false, Value.slice none 0 0, Value.slice none 0 0, Value.int .i64 0] 26)).trans ((below_drew (w := w.alloc (.cells #[Value.slice none 0 0, Value.slice none 0 0, Value.bool false, Value.bool false, Value.bool false, Value.bool false, Value.slice none 0 0, Value.slice none 0 0, Value.int .i64 0] 26))).mono (below_new w (.cells #[Value.slice none 0 0, Value.slice none 0 0, Value.bool false, Value.bool false, Value.bool false, Value.bool false, Value.slice none 0 0, Value.slice none 0 0, Value.int .i64 0] 26)).size)
 have g1 := row_lat hg b1
 have r1 : (w.alloc (.cells #[Value.slice none 0 0, Value.slice none 0 0, Value.bool false, Value.bool false, Value.bool false, Value.bool false, Value.slice none 0 0, Value.slice none 0 0, Value.int .i64 0] 26)).drew.heap[w.heap.size]? = some (.cells #[Value.slice none 0 0, Value.slice none 0 0, Value.bool false, Value.bool false, Value.bool false, Value.bool false, Value.slice none 0 0, Value.slice none 0 0, Value.int .i64 0] 26 (0, 0)) := heap_alloc_last w _
 have o1 := ho.later b1
 obtain ⟨w2, k, hcp, hn, hgr⟩ := copy_out y.m ms mem y g B (w.alloc (.cells #[Value.slice none 0 0, Value.slice none 0 0, Value.bool false, Value.bool false, Value.bool false, Value.bool false, Value.slice none 0 0, Value.slice none 0 0, Value.int .i64 0] 26)).drew g1 hm o1
 have O2 := hide hn
 have G2 := hide ((hgr.block g (row_lt g1) hB).trans g1)
 have R2 := hide ((hgr.block w.heap.size (row_lt r1) (own_ne ho (.inr (Nat.le_refl _)))).trans r1)
 have GR := hide (grownBy_trans (grownBy_below b1) hgr)
 have HO := hide ho
 have C1 := hide (big_cell g1 hm 0 _ rfl)
 have CP := hide hcp
 clear hcp hn hgr o1 r1 b1 ho hg
 go_enter Tryz.func44, Tryz.ntmps44
 go_wp2_with fail
 refine wp_region_held_drew (S := fun w' => w'.cell? ⟨g, 256, none⟩ = some (.slice y.m.a y.m.n y.m.c)) (by kernel_rfl) (uh C1) (fun hS => ?_)
 have HS := hide hS
 clear hS
 refine tkB 0 (.pointer (some ⟨g, 0, none⟩)) rfl (uh HS) ?_
 go_simp
 refine tkB 1 (.pointer (some ⟨g, 0, none⟩)) rfl (uh HS) ?_
 go_simp
 refine tkB 2 (.pointer (some ⟨g, 256, none⟩)) rfl (uh HS) ?_
 go_simp
 refine tkB 3 (.pointer (some ⟨g, 256, none⟩)) rfl (uh HS) ?_
 go_simp
 refine tkA 4 (.slice y.m.a y.m.n y.m.c) rfl (.inl ⟨by rfl, fun w hc => ?_⟩) (uh HS) ?_
 · go_simp
 go_simp
 refine tkB 5 (.pointer (some ⟨g, 0, none⟩)) rfl (uh HS) ?_
 go_simp
 refine tkB 6 (.pointer (some ⟨g, 0, none⟩)) rfl (uh HS) ?_
 go_simp
 refine tkB 7 (.pointer (some ⟨g, 0, none⟩)) rfl (uh HS) ?_
 go_simp
 refine tkB 8 (.slice (some ⟨g, 0, none⟩) 256 256) rfl (uh HS) ?_
 go_simp
 refine wpAnyH_ready (rs := [9]) (by kernel_rfl) (by simp) ?_
 refine AllReadyH.cons rfl (fun K hK => ?_) AllReadyH.nil
 have hcp := uh CP
 go_simp
 refine hK.out _ _ (big_cell (uh G2) hm 0 _ rfl) (fun _ => ?_)
 clear hK K hcp CP HS C1
 refine wpAnyH_done (by kernel_rfl) ?_ _
 have c0 : w2.cell? ⟨g, 256, none⟩ = some (.slice y.m.a y.m.n y.m.c) := big_cell (uh G2) hm 0 _ rfl
 have c1 : w2.cell? ⟨g, 257, none⟩ = some (.slice y.r.a y.r.n y.r.c) := big_cell (uh G2) hm 1 _ rfl
 have c2 : w2.cell? ⟨g, 258, none⟩ = some (.bool y.n) := big_cell (uh G2) hm 2 _ rfl
 have c3 : w2.cell? ⟨g, 259, none⟩ = some (.bool y.z) := big_cell (uh G2) hm 3 _ rfl
 have c4 : w2.cell? ⟨g, 260, none⟩ = some (.bool y.v) := big_cell (uh G2) hm 4 _ rfl
 have c5 : w2.cell? ⟨g, 261, none⟩ = some (.bool y.c) := big_cell (uh G2) hm 5 _ rfl
 have c6 : w2.cell? ⟨g, 262, none⟩ = some (.slice y.i.a y.i.n y.i.c) := big_cell (uh G2) hm 6 _ rfl
 have c7 : w2.cell? ⟨g, 263, none⟩ = some (.slice y.o.a y.o.n y.o.c) := big_cell (uh G2) hm 7 _ rfl
 have c8 : w2.cell? ⟨g, 264, none⟩ = some (.int .i64 y.st) := big_cell (uh G2) hm 8 _ rfl
 go_wp2_with (refine wpList_store_row rfl 26 _ _ rfl w.heap.size y.cs rfl rfl 26 zC (uh R2) (by kernel_rfl) rfl (Mv.cs_one _) ?_)
 refine bodyPost_ret (results_cell_row (P := Tryz.prog) rfl _ _ w.heap.size 26 y.cs (0, 0) _ rfl (setRow_heap w2 _ _ _ 26 _ (uh R2)) Tryz.underlying26 rfl (by kernel_rfl)) rfl ?_
 exact ⟨rfl, (uh O2).keep fun q hv _ => setRow_other _ _ q _ (by have := ((uh HO).lt hv).2; omega), grownBy_own (uh GR) (grownBy_setRow _) (fun b e => by cases e; exact Nat.le_refl _)⟩
theorem yields_loadQ {P : Program} {ops : Array Oper} {S : World → Prop} {o : Oper} {a : Act} (hw : Region.wanted o (yielded ops a.tmps) = true) (ty : TypeId) (x : Operand) (ho : o.op = .load ty x) (g : Nat) (hx : a.eval x = .pointer (some ⟨g, 0, none⟩)) (t : TypeId) (cs : Array Value) (d : TypeDesc)
  (hS : ∀ w, S w → w.heap[g]? = some (.cells cs t (0, 0))) (hu : P.underlying ty = some d) (hd : (match d with | .struct _ | .array _ _ => true | _ => false) = true) (hi : (P.info? ty).map (·.size) = some cs.size) : YieldsIf P ops S o (.agg cs) a := by
 refine .inl ⟨hw, fun w hw => ?_⟩
 simp only [execOp, ho, hx, Instr.loadAt, Instr.sureAddr, Sem.run_bind, Sem.run_pure, Result.andThen_ok, run_loadVar_row w g t ty cs (0, 0) d (hS w hw) hu hd hi]
theorem is_nat {i : Is} (h : i.ok = true) : ∃ op sm sr dm dr : Nat, i.op = (op : Int) ∧ i.s.m = (sm : Int) ∧ i.s.r = (sr : Int) ∧ i.d.m = (dm : Int) ∧ i.d.r = (dr : Int) ∧ InsN op sm sr dm dr i.n := by
 obtain ⟨h1, h2, h3, h4, h5, h6, h7, h8, h9, -⟩ := is_ok h
 have hs : (0 ≤ i.s.m ∧ i.s.m ≤ 7) ∧ (0 ≤ i.s.r ∧ i.s.r ≤ 7) := by
  by_cases c : i.op ≤ 6
  ·
   have := h2 c
   unfold Od.ok inB at this
   simp at this
   omega
  ·
   have := h4 (by omega)
   unfold Od.zero at this
   simp at this
   omega
 have hd : (0 ≤ i.d.m ∧ i.d.m ≤ 7) ∧ (0 ≤ i.d.r ∧ i.d.r ≤ 7) := by
  by_cases c : i.op ≤ 15
  ·
   have := h3 c
   unfold Od.ok inB at this
   simp at this
   omega
  ·
   have := h5 (by omega)
   unfold Od.zero at this
   simp at this
   omega
 refine ⟨i.op.toNat, i.s.m.toNat, i.s.r.toNat, i.d.m.toNat, i.d.r.toNat, by omega, by omega, by omega, by omega, by omega, ⟨by omega, by omega, fun _ => by omega, fun _ => by omega, fun hh => h8 (by omega), fun _ => by omega⟩⟩
def Ms.nxt (t : Ms) : Ms := t.rg 7 ((nAt t.d.r 7 + 2) % 65536)
def Ms.ins (t : Ms) : Is := decX t.d.m (nAt t.d.r 7 / 2)
def Ms.insB (t : Ms) : Bool := adB (nAt t.d.r 7) && decOk t.d.m (nAt t.d.r 7 / 2)
def Ms.stpB (t : Ms) : Bool := t.insB && t.nxt.doB t.ins.op.toNat t.ins.s.m.toNat t.ins.s.r.toNat t.ins.d.m.toNat t.ins.d.r.toNat t.ins.n
def Ms.stp (t : Ms) : Ms := t.nxt.dos t.ins.op.toNat t.ins.s.m.toNat t.ins.s.r.toNat t.ins.d.m.toNat t.ins.d.r.toNat t.ins.n
def Ms.stpS (t : Ms) (st : Int) : Int := doS t.ins.op.toNat st
theorem Tab.fm {w w' : World} {g : Nat} {y y' : Mv} (h : Tab w) (f : Fm w w' g y y') (hg : 0 ≠ g) (hy : ¬ y.at 0) : Tab w' :=
 ⟨Nat.lt_of_lt_of_le h.1 f.size, fun k hk => by have e := f.blk 0 h.1 hg hy; have := h.2 k hk; unfold World.cell? at this ⊢; simp only [e]; exact this⟩
theorem wd_bds {ns : List Int} (h : Wd ns) : Bds ns := fun i hi => by have := h _ (nAt_mem hi); omega
theorem Pz.mem {w : World} {g B gr rc : Nat} {y : Mv} {t : Ms} {st : Int} {m0 : List Int} (h : Pz w g B gr rc y t st m0) : RdN w (some ⟨g, 0, none⟩) t.d.m :=
 .inr ⟨g, 0, rfl, h.gl, fun i hi => by rw [Nat.zero_add]; exact (cell_of_row w g i _ 69 _ h.row).trans (bigA_mem y h.len (by have := h.len; omega))⟩
theorem step_odd (g B gr rc : Nat) (y : Mv) (t : Ms) (st : Int) (w : World) (h : Pz w g B gr rc y t st t.d.m) (hk : Dk t.d) (ht : Tab w) (hB : 0 < B) (hno : adB (nAt t.d.r 7) = false) (t2 : Ms) (st2 : Int) : Calls Tryz.prog 42 #[.pointer (some ⟨g, 0, none⟩)] w (DoE g B y t2 st2 false w) := by
 have c1 := h.cr
 have AR := hide h.atr
 have G0 := hide (show 0 ≠ g by have := h.lo; omega)
 have Y0 := hide (show ¬ y.at 0 from fun e => by have := (h.own.lo e).1; omega)
 have TB := hide ht
 obtain ⟨a0, a1⟩ := hk.rw _ (nAt_mem (show 7 < t.d.r.length by have := hk.rl; omega))
 have GB := hide (goOn_any g B gr rc 7 y t.d w h.pg (by rw [hk.rl]; omega) a0 a1)
 have GO := hide (show ∀ v, Pg v g B gr rc y (t.d.reg 7 ((nAt t.d.r 7 + 2) % 65536)) → Pz v g B gr rc y t.nxt st t.d.m from fun v p => h.ofPg p)
 have K2 := hide (show Dk t.nxt.d from hk.regS _ _)
 have IA := hide (fun v => isAddr_any (nAt t.d.r 7) v)
 rw [hno] at IA
 unfold DoE
 generalize t.d.reg 7 ((nAt t.d.r 7 + 2) % 65536) = dd at GB GO
 generalize nAt t.d.r 7 = v7 at GB IA a0 a1
 clear h hk ht hno
 go_enter Tryz.func42, Tryz.ntmps42
 go_wp2_with fail
 refine (uh GB).mono ?_
 rintro e w2 ⟨rfl, p2, g2⟩
 have H2 := hide (uh GO _ p2)
 have F2 := hide (Fm.grownR (g := g) g2 (uh AR))
 clear p2 g2 GB GO
 go_wp2_with fail
 refine (uh IA _).mono ?_
 rintro e w9 ⟨rfl, hw9⟩
 rw [hw9]
 clear hw9 w9
 go_wp2
 go_ret
 first | exact ⟨y, rfl, ⟨fun h => by simp at h, uh F2⟩⟩ | exact ⟨rfl, y, ⟨fun h => by simp at h, uh F2⟩⟩
theorem step_none (g B gr rc : Nat) (y : Mv) (t : Ms) (st : Int) (w : World) (h : Pz w g B gr rc y t st t.d.m) (hk : Dk t.d) (ht : Tab w) (hB : 0 < B) (hyes : adB (nAt t.d.r 7) = true) (hno : decOk t.d.m (nAt t.d.r 7 / 2) = false) (t2 : Ms) (st2 : Int) : Calls Tryz.prog 42 #[.pointer (some ⟨g, 0, none⟩)] w (DoE g B y t2 st2 false w) := by
 have c1 := h.cr
 have AR := hide h.atr
 have G0 := hide (show 0 ≠ g by have := h.lo; omega)
 have Y0 := hide (show ¬ y.at 0 from fun e => by have := (h.own.lo e).1; omega)
 have TB := hide ht
 obtain ⟨a0, a1⟩ := hk.rw _ (nAt_mem (show 7 < t.d.r.length by have := hk.rl; omega))
 have GB := hide (goOn_any g B gr rc 7 y t.d w h.pg (by rw [hk.rl]; omega) a0 a1)
 have GO := hide (show ∀ v, Pg v g B gr rc y (t.d.reg 7 ((nAt t.d.r 7 + 2) % 65536)) → Pz v g B gr rc y t.nxt st t.d.m from fun v p => h.ofPg p)
 have K2 := hide (show Dk t.nxt.d from hk.regS _ _)
 have IA := hide (fun v => isAddr_any (nAt t.d.r 7) v)
 rw [hyes] at IA
 obtain ⟨k, hk2⟩ := Int.eq_ofNat_of_zero_le (show 0 ≤ nAt t.d.r 7 / 2 by omega)
 have hq := quo2 a0 (by omega) hk2
 have DE := hide (fun v (p : Pz v g B gr rc y t.nxt st t.d.m) (tb : Tab v) => decI_any (some ⟨g, 0, none⟩) 256 256 t.d.m (k : Int) v tb hk.ml (by omega) p.mem (wd_bds hk.mw))
 unfold decV at DE
 rw [hk2] at hno
 rw [hno] at DE
 generalize decN t.d.m (k : Int) = dn at DE
 generalize decIs t.d.m (k : Int) = di at DE
 obtain ⟨op, ⟨sm, sr, sx⟩, ⟨dm, dr, dx⟩, n⟩ := di
 unfold Is.v at DE
 simp only at DE
 unfold DoE
 generalize t.d.reg 7 ((nAt t.d.r 7 + 2) % 65536) = dd at GB GO
 generalize nAt t.d.r 7 = v7 at GB IA a0 a1 hq hk2
 clear h hk ht hno hyes
 go_enter Tryz.func42, Tryz.ntmps42
 go_wp2_with fail
 refine (uh GB).mono ?_
 rintro e w2 ⟨rfl, p2, g2⟩
 have H2 := hide (uh GO _ p2)
 have F2 := hide (Fm.grownR (g := g) g2 (uh AR))
 clear p2 g2 GB GO
 go_wp2_with fail
 refine (uh IA _).mono ?_
 rintro e w9 ⟨rfl, hw9⟩
 rw [hw9]
 clear hw9 w9
 have DC := hide (uh DE _ (uh H2) ((uh TB).fm (uh F2) (uh G0) (uh Y0)))
 clear c1
 go_wp2_with fail
 refine (uh DC).mono ?_
 rintro e w3 ⟨rfl, b3⟩
 have F3 := hide (((uh F2).trans (Fm.of b3)).trans (Fm.of (below_new w3 (Obj.cells #[.int .i64 op, .int .i64 sm, .int .i64 sr, .int .i64 sx, .int .i64 dm, .int .i64 dr, .int .i64 dx, .int .i64 n] 48))))
 clear b3 DC DE
 go_wp2_with (refine wpList_store_new rfl 48 _ _ rfl #[.int .i64 op, .int .i64 sm, .int .i64 sr, .int .i64 sx, .int .i64 dm, .int .i64 dr, .int .i64 dx, .int .i64 n] rfl rfl _ (by kernel_rfl) rfl rfl ?_)
 generalize w3.alloc (Obj.cells #[.int .i64 op, .int .i64 sm, .int .i64 sr, .int .i64 sx, .int .i64 dm, .int .i64 dr, .int .i64 dx, .int .i64 n] 48) = w4 at F3 ⊢
 go_quiet (fail)
 go_wp2
 go_ret
 have FD : ∀ m, Fm w (w4.drewN m) g y y := fun m => (uh F3).trans (Fm.of (below_drewN (Below.refl _ _) m))
 first | exact ⟨y, rfl, ⟨fun h => by simp at h, FD _⟩⟩ | exact ⟨rfl, y, ⟨fun h => by simp at h, FD _⟩⟩
theorem step_do (g B gr rc : Nat) (y : Mv) (t : Ms) (st : Int) (w : World) (h : Pz w g B gr rc y t st t.d.m) (hk : Dk t.d) (ht : Tab w) (hB : 0 < B) (hyes : adB (nAt t.d.r 7) = true) (hok : decOk t.d.m (nAt t.d.r 7 / 2) = true) (op sm sr dm dr : Nat) (sx dx n : Int) (hx : t.ins = ⟨op, ⟨sm, sr, sx⟩, ⟨dm, dr, dx⟩, n⟩) (hi : InsN op sm sr dm dr n) :
  Calls Tryz.prog 42 #[.pointer (some ⟨g, 0, none⟩)] w (DoE g B y (t.nxt.dos op sm sr dm dr n) (doS op st) (t.nxt.doB op sm sr dm dr n) w) := by
 have c1 := h.cr
 have AR := hide h.atr
 have G0 := hide (show 0 ≠ g by have := h.lo; omega)
 have Y0 := hide (show ¬ y.at 0 from fun e => by have := (h.own.lo e).1; omega)
 have TB := hide ht
 obtain ⟨a0, a1⟩ := hk.rw _ (nAt_mem (show 7 < t.d.r.length by have := hk.rl; omega))
 have GB := hide (goOn_any g B gr rc 7 y t.d w h.pg (by rw [hk.rl]; omega) a0 a1)
 have GO := hide (show ∀ v, Pg v g B gr rc y (t.d.reg 7 ((nAt t.d.r 7 + 2) % 65536)) → Pz v g B gr rc y t.nxt st t.d.m from fun v p => h.ofPg p)
 have K2 := hide (show Dk t.nxt.d from hk.regS _ _)
 have IA := hide (fun v => isAddr_any (nAt t.d.r 7) v)
 rw [hyes] at IA
 obtain ⟨k, hk2⟩ := Int.eq_ofNat_of_zero_le (show 0 ≤ nAt t.d.r 7 / 2 by omega)
 have hq := quo2 a0 (by omega) hk2
 have DE := hide (fun v (p : Pz v g B gr rc y t.nxt st t.d.m) (tb : Tab v) => decI_any (some ⟨g, 0, none⟩) 256 256 t.d.m (k : Int) v tb hk.ml (by omega) p.mem (wd_bds hk.mw))
 unfold decV at DE
 unfold Ms.ins at hx
 rw [hk2] at hok hx
 have hdi : decIs t.d.m (k : Int) = ⟨op, ⟨sm, sr, sx⟩, ⟨dm, dr, dx⟩, n⟩ := by unfold decIs; rw [if_pos hok]; exact hx
 rw [hok, hdi] at DE
 generalize decN t.d.m (k : Int) = dn at DE
 unfold Is.v at DE
 simp only at DE
 have AO := hide (fun v => actionOf_any op hi.lo hi.hi v)
 have DV := hide (fun v b C (p : Pz v g B gr rc y t.nxt st t.d.m) (hb : actB C v op b) => do_any g B gr rc op sm sr dm dr b C sx dx n y t.nxt st v p (uh K2) hi hb)
 unfold DoV at DV
 unfold DoE
 have DOE := hide (fun (v : World) (e : Ending) (v' : World) (q : DoE g B y (t.nxt.dos op sm sr dm dr n) (doS op st) (t.nxt.doB op sm sr dm dr n) v e v') => q)
 unfold DoE at DV
 generalize t.nxt.doB op sm sr dm dr n = okd at DV ⊢
 generalize t.nxt.dos op sm sr dm dr n = t2 at DV ⊢
 generalize doS op st = st2 at DV ⊢
 generalize t.nxt = t1 at GO DE DV
 generalize t.d.reg 7 ((nAt t.d.r 7 + 2) % 65536) = dd at GB GO
 generalize nAt t.d.r 7 = v7 at GB IA a0 a1 hq hk2
 clear h hk ht hok hyes hdi hx K2 DOE
 go_enter Tryz.func42, Tryz.ntmps42
 go_wp2_with fail
 refine (uh GB).mono ?_
 rintro e w2 ⟨rfl, p2, g2⟩
 have H2 := hide (uh GO _ p2)
 have F2 := hide (Fm.grownR (g := g) g2 (uh AR))
 clear p2 g2 GB GO
 go_wp2_with fail
 refine (uh IA _).mono ?_
 rintro e w9 ⟨rfl, hw9⟩
 rw [hw9]
 clear hw9 w9
 have DC := hide (uh DE _ (uh H2) ((uh TB).fm (uh F2) (uh G0) (uh Y0)))
 clear c1
 go_wp2_with fail
 refine (uh DC).mono ?_
 rintro e w3 ⟨rfl, b3⟩
 have H4 := hide (((uh H2).later b3).later (below_new w3 (Obj.cells #[.int .i64 (op : Int), .int .i64 (sm : Int), .int .i64 (sr : Int), .int .i64 sx, .int .i64 (dm : Int), .int .i64 (dr : Int), .int .i64 dx, .int .i64 n] 48)))
 have F4 := hide (((uh F2).trans (Fm.of b3)).trans (Fm.of (below_new w3 (Obj.cells #[.int .i64 (op : Int), .int .i64 (sm : Int), .int .i64 (sr : Int), .int .i64 sx, .int .i64 (dm : Int), .int .i64 (dr : Int), .int .i64 dx, .int .i64 n] 48))))
 have R4 := hide (heap_alloc_last w3 (Obj.cells #[.int .i64 (op : Int), .int .i64 (sm : Int), .int .i64 (sr : Int), .int .i64 sx, .int .i64 (dm : Int), .int .i64 (dr : Int), .int .i64 dx, .int .i64 n] 48))
 clear b3 DC DE
 go_wp2_with (refine wpList_store_new rfl 48 _ _ rfl #[.int .i64 (op : Int), .int .i64 (sm : Int), .int .i64 (sr : Int), .int .i64 sx, .int .i64 (dm : Int), .int .i64 (dr : Int), .int .i64 dx, .int .i64 n] rfl rfl _ (by kernel_rfl) rfl rfl ?_)
 generalize w3.heap.size = ib at R4 ⊢
 generalize w3.alloc (Obj.cells #[.int .i64 (op : Int), .int .i64 (sm : Int), .int .i64 (sr : Int), .int .i64 sx, .int .i64 (dm : Int), .int .i64 (dr : Int), .int .i64 dx, .int .i64 n] 48) = w4 at H4 F4 R4 ⊢
 have H5 := hide ((uh H4).later (below_drew (w := w4)))
 have F5 := hide ((uh F4).trans (Fm.of (below_drew (w := w4))))
 have HS := hide (row_lat (uh R4) (below_drew (w := w4)))
 refine wp_region_last (fun v => v.heap[ib]? = some (.cells #[.int .i64 (op : Int), .int .i64 (sm : Int), .int .i64 (sr : Int), .int .i64 sx, .int .i64 (dm : Int), .int .i64 (dr : Int), .int .i64 dx, .int .i64 n] 48 (0, 0))) 7 (by kernel_rfl) ?_
 generalize w4.drew = wd at H5 F5 HS ⊢
 refine twB 0 (.bool true) rfl (.inl (uh HS)) ?_
 go_simp
 refine twB 1 (.bool true) rfl (.inl (uh HS)) ?_
 go_simp
 refine twB 2 (.pointer (some ⟨ib, 0, none⟩)) rfl (.inl (uh HS)) ?_
 go_simp
 refine twB 5 (.pointer (some ⟨g, 0, none⟩)) rfl (.inl (uh HS)) ?_
 go_simp
 refine tsA 6 (.agg #[.int .i64 (op : Int), .int .i64 (sm : Int), .int .i64 (sr : Int), .int .i64 sx, .int .i64 (dm : Int), .int .i64 (dr : Int), .int .i64 dx, .int .i64 n]) rfl (yields_loadQ (by rfl) 48 _ rfl ib rfl 48 #[.int .i64 (op : Int), .int .i64 (sm : Int), .int .i64 (sr : Int), .int .i64 sx, .int .i64 (dm : Int), .int .i64 (dr : Int), .int .i64 dx, .int .i64 n] _ (fun w h => h) Tryz.underlying48 rfl (by kernel_rfl)) (uh HS) ?_
 go_simp
 have k0 := insR 0 _ (uh HS) rfl
 refine wpAnyL_one (i := 3) (by kernel_rfl) rfl (fun K2 hK => ?_)
 go_simp
 refine hK.out _ _ (fun _ => uh HS) ?_
 clear hK K2 k0
 refine wpAnyL_one (i := 4) (by kernel_rfl) rfl (fun K2 hK => ?_)
 go_simp
 refine (uh AO _).mono ?_
 rintro e w6 ⟨b, rfl, ab, b6⟩
 have H6 := hide ((uh H5).later b6)
 have F6 := hide ((uh F5).trans (Fm.of b6))
 have R6 := hide (row_lat (uh HS) b6)
 have DVC := hide (uh DV _ _ _ (uh H6) ab)
 generalize actV op b = av at DVC ⊢
 refine hK.out _ _ (fun _ => uh R6) ?_
 clear hK K2 ab b6 DV AO HS
 rcases uh DVC with ⟨fn, rfl, hcf, hc⟩ | ⟨fn, rfl, hcf, hc⟩
 ·
  have HC := hide hc
  clear hc DVC
  refine wpAnyL_one (i := 7) (by kernel_rfl) rfl (fun K2 hK => ?_)
  go_simp
  refine (uh HC).mono ?_
  rintro e w7 ⟨y7, rfl, a7⟩
  have A7 := hide a7
  refine hK.out _ _ (fun h => absurd h (by decide)) ?_
  clear hK K2 a7
  refine twB 8 (.bool okd) rfl (.inr (by decide)) ?_
  go_simp
  refine twB 9 (.bool okd) rfl (.inr (by decide)) ?_
  go_simp
  refine wpAnyL_done (by kernel_rfl) ?_ _
  go_wp2
  go_ret
  have FD := (uh F6).trans (uh A7).fm
  first | exact ⟨y7, rfl, ⟨fun h => (uh A7).yes h, FD⟩⟩ | exact ⟨rfl, y7, ⟨fun h => (uh A7).yes h, FD⟩⟩
 ·
  have HC := hide hc
  clear hc DVC
  refine wpAnyL_one (i := 7) (by kernel_rfl) rfl (fun K2 hK => ?_)
  go_simp
  refine (uh HC).mono ?_
  rintro e w7 ⟨y7, rfl, a7⟩
  have A7 := hide a7
  refine hK.out _ _ (fun h => absurd h (by decide)) ?_
  clear hK K2 a7
  refine twB 8 (.bool okd) rfl (.inr (by decide)) ?_
  go_simp
  refine twB 9 (.bool okd) rfl (.inr (by decide)) ?_
  go_simp
  refine wpAnyL_done (by kernel_rfl) ?_ _
  go_wp2
  go_ret
  have FD := (uh F6).trans (uh A7).fm
  first | exact ⟨y7, rfl, ⟨fun h => (uh A7).yes h, FD⟩⟩ | exact ⟨rfl, y7, ⟨fun h => (uh A7).yes h, FD⟩⟩
theorem stepI_any (g B gr rc : Nat) (y : Mv) (t : Ms) (st : Int) (w : World) (h : Pz w g B gr rc y t st t.d.m) (hk : Dk t.d) (ht : Tab w) (hB : 0 < B) : Calls Tryz.prog 42 #[.pointer (some ⟨g, 0, none⟩)] w (DoE g B y t.stp (t.stpS st) t.stpB w) := by
 unfold Ms.stpB Ms.insB
 cases h1 : adB (nAt t.d.r 7)
 · exact step_odd g B gr rc y t st w h hk ht hB h1 _ _
 ·
  cases h2 : decOk t.d.m (nAt t.d.r 7 / 2)
  · exact step_none g B gr rc y t st w h hk ht hB h1 h2 _ _
  ·
   have hok : t.ins.ok = true := by unfold Ms.ins; unfold decOk at h2; simp only [Bool.and_eq_true] at h2; exact h2.2.2
   obtain ⟨op, sm, sr, dm, dr, e1, e2, e3, e4, e5, hi⟩ := is_nat hok
   have hx : t.ins = ⟨op, ⟨sm, sr, t.ins.s.x⟩, ⟨dm, dr, t.ins.d.x⟩, t.ins.n⟩ := by rw [← e1, ← e2, ← e3, ← e4, ← e5]
   have q := step_do g B gr rc y t st w h hk ht hB h1 h2 op sm sr dm dr _ _ _ hx hi
   unfold Ms.stp Ms.stpS
   rw [show t.ins.op.toNat = op by omega, show t.ins.s.m.toNat = sm by omega, show t.ins.s.r.toNat = sr by omega, show t.ins.d.m.toNat = dm by omega, show t.ins.d.r.toNat = dr by omega]
   exact q
section
theorem dk_of {d : Md} {st : Int} (h : d.ok st = true) : Dk d ∧ 0 ≤ st ∧ st ≤ 2 := by
 unfold Md.ok at h
 simp only [Bool.and_eq_true, beq_iff_eq, decide_eq_true_eq] at h
 obtain ⟨h1, h2, h3, h4, h5, h6, h7, h8, h9⟩ := h
 have := inB_b h9
 exact ⟨⟨by omega, Wd.of h2, by omega, Wd.of h4, by omega, Wd.of h6, by omega, Wd.of h8⟩, this.1, this.2⟩
theorem laid_fullQ {ns : List Int} (h : ns.length = 256) : laidM ns z256 = ns := by
 unfold laidM
 rw [List.take_of_length_le (by omega), List.drop_eq_nil_of_le (by rw [z256_len]; omega), List.append_nil]
def Ms.stA (t : Ms) (st : Int) : Ms := if (t.d.ok st && (st == 0 && t.stpB)) = true then t.stp else t
def Ms.stN (t : Ms) (st : Int) : Int := if (t.d.ok st && st == 0) = true then (if t.stpB = true then t.stpS 0 else 2) else st
def Mv.ms (x : Mv) (d : Md) : Ms := ⟨d, x.n, x.z, x.v, x.c⟩
structure Bst (w wr : World) (x : Mv) : Prop where
 bx : wr.heap[w.heap.size]? = some (.cells x.cs 26 (0, 0))
 re : wr.heap[w.heap.size + 1]? = some (.cells zMv.cs 26 (0, 0))
 bel : Below w.heap.size w wr
 sz : w.heap.size + 2 ≤ wr.heap.size
section
variable {w wr w' : World} {x : Mv}
theorem bst_new (w : World) (x : Mv) : Bst w ((w.alloc (.cells x.cs 26)).alloc (.cells zMv.cs 26)) x := by
 have z1 : (w.alloc (.cells x.cs 26)).heap.size = w.heap.size + 1 := by simp
 have a1 := row_lat (heap_alloc_last w (.cells x.cs 26)) (below_new (w.alloc (.cells x.cs 26)) (.cells zMv.cs 26))
 have a2 := heap_alloc_last (w.alloc (.cells x.cs 26)) (.cells zMv.cs 26)
 rw [z1] at a2
 exact ⟨a1, a2, (below_new w _).trans ((below_new _ _).mono (by simp)), by simp⟩
theorem Bst.later (h : Bst w wr x) (hb : Below wr.heap.size wr w') : Bst w w' x := ⟨row_lat h.bx hb, row_lat h.re hb, h.bel.trans (hb.mono (by have := h.sz; omega)), Nat.le_trans h.sz hb.size⟩
theorem Bst.bel2 {B : Nat} (h : Bst w wr x) (hb : Below B wr w') (hB : w.heap.size + 2 ≤ B) : Bst w w' x :=
 ⟨(hb.block _ (by omega)).trans h.bx, (hb.block _ (by omega)).trans h.re, h.bel.trans (hb.mono (by omega)), Nat.le_trans h.sz hb.size⟩
theorem Bst.done (h : Bst w wr x) (cs : Array Value) : (wr.setRow (w.heap.size + 1) cs).heap[w.heap.size + 1]? = some (.cells cs 26 (0, 0)) ∧ Below w.heap.size w (wr.setRow (w.heap.size + 1) cs) :=
 ⟨setRow_heap wr _ _ _ 26 _ h.re, below_setRow h.bel (by omega) _⟩
end
theorem OwnE.row {w : World} {B g : Nat} {x : Mv} {d : Md} (h : OwnE w B x d) (hb : g < B) (cs : Array Value) : OwnE (w.setRow g cs) B x d := h.keepH fun j h1 _ => setRow_other w g j cs (by have := (h.lo h1).1; omega)
def FtIs (x : Mv) (d : Md) (w : World) : Prop := Calls Tryz.prog 43 #[.agg x.cs] w fun e w' => ∃ y : Mv, e = .returned (.agg y.cs) ∧ y.fl = (x.ms d).fl 2 ∧ OwnM w' (w.heap.size + 2) y d ∧ Below w.heap.size w w'
theorem faulted_any (x : Mv) (d : Md) (w : World) (hs : x.small) (hz : x.nz) (hr : RdM w x d) : FtIs x d w := by
 have B1 := hide (bst_new w x)
 have CM := hide (copyM_any x d _ hs hz (hr.later (uh B1).bel))
 unfold FtIs
 clear hs hz hr
 go_enter Tryz.func43, Tryz.ntmps43
 go_wp2_with (refine wpList_load_row rfl 26 _ rfl w.heap.size rfl 26 x.cs (0, 0) _ (uh B1).bx Tryz.underlying26 rfl (by kernel_rfl) ?_)
 refine (uh CM).mono ?_
 rintro e w2 ⟨y, rfl, fy, oy, hb⟩
 have R2 := heap_alloc_last w2 (.cells y.cs 26)
 have FY := hide (show ({ y with st := 2 } : Mv).fl = (x.ms d).fl 2 by unfold Mv.fl Ms.fl Mv.ms at *; simp at *; exact ⟨fy.1, fy.2.1, fy.2.2.1, fy.2.2.2.1⟩)
 have SB := hide (show w.heap.size + 2 ≤ ((w.alloc (.cells x.cs 26)).alloc (.cells zMv.cs 26)).heap.size + 2 by simp)
 have EC := hide (show y.cs.setIfInBounds 8 (.int .i64 2) = Mv.cs { y with st := 2 } from rfl)
 have c8 := row_st R2
 have f8 := row_fz R2 8
 have B3 := hide (((uh B1).later hb).later (below_new w2 (.cells (y.cs.setIfInBounds 8 (.int .i64 2)) 26)))
 have R3 := hide (heap_alloc_last w2 (.cells (y.cs.setIfInBounds 8 (.int .i64 2)) 26))
 have O3 := hide (oy.later (below_new w2 (.cells (y.cs.setIfInBounds 8 (.int .i64 2)) 26)))
 clear fy oy hb CM R2 B1
 go_wp2_with (first | (refine wpList_store_new rfl 26 _ _ rfl y.cs rfl rfl _ (by kernel_rfl) rfl (Mv.cs_one _) ?_) | (refine wpList_load_row rfl 26 _ rfl w2.heap.size rfl 26 (y.cs.setIfInBounds 8 (.int .i64 2)) (0, 0) _ (uh R3) Tryz.underlying26 rfl (by kernel_rfl) ?_) | (refine wpList_store_row rfl 26 _ _ rfl (w.heap.size + 1) (y.cs.setIfInBounds 8 (.int .i64 2)) rfl rfl 26 zMv.cs (uh B3).re (by kernel_rfl) rfl (Mv.cs_one { y with st := 2 }) ?_))
 obtain ⟨r1, r2⟩ := (uh B3).done (y.cs.setIfInBounds 8 (.int .i64 2))
 refine bodyPost_ret (results_cell_row (P := Tryz.prog) rfl _ _ (w.heap.size + 1) 26 (y.cs.setIfInBounds 8 (.int .i64 2)) (0, 0) _ rfl r1 Tryz.underlying26 rfl (by kernel_rfl)) rfl ?_
 have q := (uh O3).row (g := w.heap.size + 1) (by simp) (y.cs.setIfInBounds 8 (.int .i64 2))
 obtain ⟨q1, q2, q3, q4, a1, a2, a3, a4, a5, a6⟩ := q.base (uh SB)
 exact ⟨{ y with st := 2 }, rfl, uh FY, ⟨q1, q2, q3, q4, a1, a2, a3, a4, a5, a6⟩, r2⟩
def StIs (x : Mv) (d d2 : Md) (f2 : Bool × Bool × Bool × Bool × Int) (w : World) : Prop := Calls Tryz.prog 27 #[.agg x.cs] w fun e w' => ∃ y : Mv, e = .returned (.agg y.cs) ∧ y.fl = f2 ∧ OwnE w' (w.heap.size + 2) y d2 ∧ Below w.heap.size w w' 
theorem stI_no (x : Mv) (d : Md) (w : World) (hs : x.small) (hz : x.nz) (hr : RdM w x d) (hno : (d.ok x.st && x.st == 0) = false) : StIs x d d x.fl w := by
 have B1 := hide (bst_new w x)
 have X1 := hide (hr.later (uh B1).bel)
 have MK := hide (okI_any x d _ hs (uh X1))
 have CM := hide (fun v (h : RdM v x d) => copyM_any x d v hs hz h)
 unfold StIs
 cases hok : d.ok x.st
 ·
  rw [hok] at MK
  clear hs hz hr hok hno
  go_enter Tryz.func27, Tryz.ntmps27
  go_wp2_with (refine wpList_load_row rfl 26 _ rfl w.heap.size rfl 26 x.cs (0, 0) _ (uh B1).bx Tryz.underlying26 rfl (by kernel_rfl) ?_)
  refine (uh MK).mono ?_
  rintro e w2 ⟨rfl, hb⟩
  have B2 := hide ((uh B1).later hb)
  have CC := hide (uh CM _ ((uh X1).later hb))
  clear hb MK CM B1 X1
  go_wp2_with (refine wpList_load_row rfl 26 _ rfl w.heap.size rfl 26 x.cs (0, 0) _ (uh B2).bx Tryz.underlying26 rfl (by kernel_rfl) ?_)
  refine (uh CC).mono ?_
  rintro e w3 ⟨y, rfl, fy, oy, hb⟩
  have B9 := hide ((uh B2).later hb)
  have FY := hide fy
  have O3 := hide (oy.toE.base (C := w.heap.size + 2) (by have := (uh B2).sz; omega))
  clear fy oy hb CC B2
  go_wp2_with (refine wpList_store_row rfl 26 _ _ rfl (w.heap.size + 1) y.cs rfl rfl 26 zMv.cs (uh B9).re (by kernel_rfl) rfl (Mv.cs_one _) ?_)
  obtain ⟨r1, r2⟩ := (uh B9).done y.cs
  refine bodyPost_ret (results_cell_row (P := Tryz.prog) rfl _ _ (w.heap.size + 1) 26 y.cs (0, 0) _ rfl r1 Tryz.underlying26 rfl (by kernel_rfl)) rfl ?_
  exact ⟨y, rfl, uh FY, (uh O3).row (by omega) _, r2⟩
 ·
  rw [hok] at MK hno
  have hst : x.st ≠ 0 := fun e => by rw [e] at hno; simp at hno
  have c8 := row_st (uh B1).bx
  have C8 := hide (fun v (b : Bst w v x) => row_st b.bx)
  generalize x.st = xs at c8 C8 hst
  clear hs hz hr hok hno c8
  go_enter Tryz.func27, Tryz.ntmps27
  go_wp2_with (refine wpList_load_row rfl 26 _ rfl w.heap.size rfl 26 x.cs (0, 0) _ (uh B1).bx Tryz.underlying26 rfl (by kernel_rfl) ?_)
  refine (uh MK).mono ?_
  rintro e w2 ⟨rfl, hb⟩
  have B2 := hide ((uh B1).later hb)
  have CC := hide (uh CM _ ((uh X1).later hb))
  have c8 := uh C8 _ (uh B2)
  clear hb MK CM B1 X1 C8
  go_wp2_with (refine wpList_load_row rfl 26 _ rfl w.heap.size rfl 26 x.cs (0, 0) _ (uh B2).bx Tryz.underlying26 rfl (by kernel_rfl) ?_)
  refine (uh CC).mono ?_
  rintro e w3 ⟨y, rfl, fy, oy, hb⟩
  have B9 := hide ((uh B2).later hb)
  have FY := hide fy
  have O3 := hide (oy.toE.base (C := w.heap.size + 2) (by have := (uh B2).sz; omega))
  clear fy oy hb CC B2 c8
  go_wp2_with (refine wpList_store_row rfl 26 _ _ rfl (w.heap.size + 1) y.cs rfl rfl 26 zMv.cs (uh B9).re (by kernel_rfl) rfl (Mv.cs_one _) ?_)
  obtain ⟨r1, r2⟩ := (uh B9).done y.cs
  refine bodyPost_ret (results_cell_row (P := Tryz.prog) rfl _ _ (w.heap.size + 1) 26 y.cs (0, 0) _ rfl r1 Tryz.underlying26 rfl (by kernel_rfl)) rfl ?_
  exact ⟨y, rfl, uh FY, (uh O3).row (by omega) _, r2⟩
theorem stI_do (x : Mv) (d : Md) (w : World) (hs : x.small) (hz : x.nz) (hr : RdM w x d) (ht : Tab w) (hok : d.ok x.st = true) (h0 : x.st = 0) : StIs x d (if (x.ms d).stpB = true then (x.ms d).stp.d else d) (if (x.ms d).stpB = true then (x.ms d).stp.fl ((x.ms d).stpS 0) else (x.ms d).fl 2) w := by
 have B1 := hide (bst_new w x)
 have X1 := hide (hr.later (uh B1).bel)
 have MK := hide (okI_any x d _ hs (uh X1))
 rw [hok] at MK
 have DK := (dk_of hok).1
 have DK2 := hide DK
 have MO := hide (fun v (h : RdM v x d) => machineOf_any x d v hs hz h)
 rw [laid_fullQ DK.ml] at MO
 have FT := hide (fun v (h : RdM v x d) => faulted_any x d v hs hz h)
 unfold FtIs at FT
 have HR := hide hr
 have TB := hide ht
 have ST := hide (fun g B gr rc (y : Mv) v (p : Pz v g B gr rc y (x.ms d) 0 d.m) (tb : Tab v) (hB : 0 < B) => stepI_any g B gr rc y (x.ms d) 0 v p DK tb hB)
 unfold DoE at ST
 have C8 := hide (fun v (b : Bst w v x) => row_st b.bx)
 have XF := hide (show x.fl = (x.ms d).fl 0 by rw [← h0]; rfl)
 rw [h0] at C8
 unfold StIs
 generalize (x.ms d).stpB = ok at ST ⊢
 generalize (x.ms d).stp = t2 at ST ⊢
 generalize (x.ms d).stpS 0 = s2 at ST ⊢
 generalize hm : x.ms d = t at ST FT XF ⊢
 have TD := hide (show t.d = d by rw [← hm]; rfl)
 clear hs hz hr hok ht DK h0 hm
 go_enter Tryz.func27, Tryz.ntmps27
 go_wp2_with (refine wpList_load_row rfl 26 _ rfl w.heap.size rfl 26 x.cs (0, 0) _ (uh B1).bx Tryz.underlying26 rfl (by kernel_rfl) ?_)
 refine (uh MK).mono ?_
 rintro e w2 ⟨rfl, hb⟩
 have B2 := hide ((uh B1).later hb)
 have X2 := hide ((uh X1).later hb)
 have MO2 := hide (uh MO _ (uh X2))
 have c8 := uh C8 _ (uh B2)
 clear hb MK B1 X1 C8 MO
 go_wp2_with (refine wpList_load_row rfl 26 _ rfl w.heap.size rfl 26 x.cs (0, 0) _ (uh B2).bx Tryz.underlying26 rfl (by kernel_rfl) ?_)
 refine (uh MO2).mono ?_
 rintro e w3 ⟨y, rfl, fy, oy, hb⟩
 have oy := oy.base (C := w.heap.size + 2) (by have := (uh B2).sz; omega)
 obtain ⟨gr, rc, er⟩ := sl_formP oy.r (by rw [(uh DK2).rl]; omega)
 have ny : ∀ b, y.at b → b ≠ w3.heap.size := fun b k => by have := (oy.lo k).2; omega
 have S3 := hide (show w.heap.size + 2 ≤ w3.heap.size by have := (uh B2).sz; have := hb.size; omega)
 have B3 := hide (((uh B2).later hb).later (below_new w3 (.cells (bigA d.m y) 69)))
 have P3 := hide (show Pz (w3.alloc (.cells (bigA d.m y) 69)) w3.heap.size (w.heap.size + 2) gr rc y t 0 d.m from
  ⟨by rw [uh TD]; exact heap_alloc_last w3 _, by rw [uh TD]; exact (uh DK2).ml, by rw [uh TD]; exact oy.later (below_new w3 _), by rw [er, (uh DK2).rl], by rw [uh TD]; exact (uh DK2).rl, fy.trans (uh XF), uh S3, ny⟩)
 have LY := hide (fun b (k : y.at b) => (oy.lo k).1)
 have ST2 := hide (uh ST _ _ _ _ _ _ (uh P3) ((uh TB).later (uh B3).bel) (by omega))
 have ML := hide (uh DK2).ml
 clear fy oy hb MO2 er ny ST B2 X2 c8 XF
 go_wp2_with (first | (refine wpList_alloc60 rfl rfl ?_) | (refine wpList_store60 rfl _ _ rfl d.m y (uh ML) rfl rfl ?_))
 refine (uh ST2).mono ?_
 rintro e w4 ⟨y2, rfl, a4⟩
 have BB := hide (a4.fm.bel (B := w.heap.size + 2) (by have := uh S3; simp; omega) (by have := uh S3; omega) (fun b k => uh LY b k))
 have B4 := hide ((uh B3).bel2 (uh BB) (Nat.le_refl _))
 cases ok
 ·
  have FT2 := hide (uh FT _ ((uh HR).later (uh B4).bel))
  clear a4 FT ST2 P3 B3
  go_wp2_with (refine wpList_load_row rfl 26 _ rfl w.heap.size rfl 26 x.cs (0, 0) _ (uh B4).bx Tryz.underlying26 rfl (by kernel_rfl) ?_)
  refine (uh FT2).mono ?_
  rintro e w5 ⟨y5, rfl, fy, oy, hb⟩
  have B9 := hide ((uh B4).later hb)
  have FY := hide fy
  have O5 := hide (oy.toE.base (C := w.heap.size + 2) (by have := (uh B4).sz; omega))
  clear fy oy hb FT2 B4
  go_wp2_with (refine wpList_store_row rfl 26 _ _ rfl (w.heap.size + 1) y5.cs rfl rfl 26 zMv.cs (uh B9).re (by kernel_rfl) rfl (Mv.cs_one _) ?_)
  obtain ⟨r1, r2⟩ := (uh B9).done y5.cs
  refine bodyPost_ret (results_cell_row (P := Tryz.prog) rfl _ _ (w.heap.size + 1) 26 y5.cs (0, 0) _ rfl r1 Tryz.underlying26 rfl (by kernel_rfl)) rfl ?_
  exact ⟨y5, rfl, uh FY, (uh O5).row (by omega) _, r2⟩
 ·
  have pe := a4.yes (by trivial)
  obtain ⟨m0, hm0, ow⟩ := pe.own
  have AN := hide (answerE_any w3.heap.size (w.heap.size + 2) t2.d.m m0 y2 w4 pe.len pe.row ow.m (fun e => pe.ne _ (.inl e.symm) rfl))
  rw [hm0, List.take_of_length_le (Nat.le_of_eq pe.len), List.drop_eq_nil_of_le (Nat.le_of_eq hm0), List.append_nil] at AN
  have OW := hide ow
  have FY := hide pe.fl
  clear a4 FT ST2 P3 B3 pe ow
  go_wp2_with fail
  refine (uh AN).mono ?_
  rintro e w5 ⟨rfl, om, g5⟩
  have O5 := hide (show OwnE w5 (w.heap.size + 2) y2 t2.d from
   { m := om
     r := (uh OW).r.keep fun q hv hq => g5.block q hq (fun e => (uh OW).mr q e.symm hv)
     i := (uh OW).i.keep fun q hv hq => g5.block q hq (fun e => (uh OW).mi q e.symm hv)
     o := (uh OW).o.keep fun q hv hq => g5.block q hq (fun e => (uh OW).mo q e.symm hv)
     mr := (uh OW).mr, mi := (uh OW).mi, mo := (uh OW).mo, ri := (uh OW).ri, ro := (uh OW).ro, io := (uh OW).io })
  have B9 := hide ((uh B4).bel2 (B := w.heap.size + 2) ⟨g5.os, g5.tape, g5.output, g5.size, fun k hk => g5.block k (by have := (uh B4).sz; omega) (fun e => by have := ((uh OW).m.lt e.symm).1; omega)⟩ (Nat.le_refl _))
  clear om g5 AN OW B4
  go_wp2_with (refine wpList_store_row rfl 26 _ _ rfl (w.heap.size + 1) y2.cs rfl rfl 26 zMv.cs (uh B9).re (by kernel_rfl) rfl (Mv.cs_one _) ?_)
  obtain ⟨r1, r2⟩ := (uh B9).done y2.cs
  refine bodyPost_ret (results_cell_row (P := Tryz.prog) rfl _ _ (w.heap.size + 1) 26 y2.cs (0, 0) _ rfl r1 Tryz.underlying26 rfl (by kernel_rfl)) rfl ?_
  exact ⟨y2, rfl, uh FY, (uh O5).row (by omega) _, r2⟩
theorem stepI_all (x : Mv) (d : Md) (w : World) (hs : x.small) (hz : x.nz) (hr : RdM w x d) (ht : Tab w) : StIs x d ((x.ms d).stA x.st).d (((x.ms d).stA x.st).fl ((x.ms d).stN x.st)) w := by
 unfold Ms.stA Ms.stN
 cases hno : (d.ok x.st && x.st == 0)
 ·
  have e1 : ((x.ms d).d.ok x.st && x.st == 0) = false := hno
  have e2 : ((x.ms d).d.ok x.st && (x.st == 0 && (x.ms d).stpB)) = false := by rw [← Bool.and_assoc, e1, Bool.false_and]
  rw [e1, e2, if_neg (by simp), if_neg (by simp)]
  exact stI_no x d w hs hz hr hno
 ·
  have e1 : ((x.ms d).d.ok x.st && x.st == 0) = true := hno
  have e2 : ((x.ms d).d.ok x.st && (x.st == 0 && (x.ms d).stpB)) = (x.ms d).stpB := by rw [← Bool.and_assoc, e1, Bool.true_and]
  rw [e1, e2, if_pos rfl]
  simp only [Bool.and_eq_true, beq_iff_eq] at hno
  have q := stI_do x d w hs hz hr ht hno.1 hno.2
  cases hb : (x.ms d).stpB
  ·
   rw [hb] at q
   exact q
  ·
   rw [hb] at q
   exact q
end
def Io (d e : Md) : Prop := e.o = d.o ∧ e.i = d.i
theorem Io.refl (d : Md) : Io d d := ⟨rfl, rfl⟩
theorem Io.trans {a b c : Md} (h : Io a b) (k : Io b c) : Io a c := ⟨k.1.trans h.1, k.2.trans h.2⟩
theorem io_reg (d : Md) (k : Nat) (v : Int) : Io d (d.reg k v) := ⟨rfl, rfl⟩
theorem io_st (d : Md) (r a n : Int) : Io d (d.stD r a n) := by
 unfold Md.stD Md.put
 repeat' split
 all_goals exact ⟨rfl, rfl⟩
theorem io_pl (d : Md) (mo re : Nat) : Io d (d.plD mo re) := by
 unfold Md.plD Md.adD Md.fet
 repeat' split
 all_goals exact ⟨rfl, rfl⟩
theorem io_two (t : Ms) (op : Nat) (s r a : Int) : Io t.d (t.two op s r a).d := by
 unfold Ms.two
 split
 all_goals first | exact io_st t.d r a _ | exact ⟨rfl, rfl⟩
theorem io_one (t : Ms) (op : Nat) (r a : Int) : Io t.d (t.one op r a).d := by
 unfold Ms.one
 split
 all_goals first | exact io_st t.d r a _ | exact ⟨rfl, rfl⟩
theorem dk_two {t : Ms} (h : Dk t.d) (op : Nat) (s r a : Int) : Dk (t.two op s r a).d := by
 unfold Ms.two
 split
 all_goals first | exact dk_stS h r a _ | exact h
theorem dk_one {t : Ms} (h : Dk t.d) (op : Nat) (r a : Int) : Dk (t.one op r a).d := by
 unfold Ms.one
 split
 all_goals first | exact dk_stS h r a _ | exact h
theorem ad_w {d : Md} (hk : Dk d) (mo re : Nat) (hr : re < 8) : 0 ≤ d.adV mo re ∧ d.adV mo re ≤ 65535 := by
 have h := hk.rw _ (nAt_mem (show re < d.r.length by have := hk.rl; omega))
 unfold Md.adV
 repeat' split
 all_goals omega
theorem pl_w {d : Md} (hk : Dk d) (mo re : Nat) (hr : re < 8) (hq : d.plR mo re = -1) : 0 ≤ d.plA mo re ∧ d.plA mo re ≤ 65535 := by
 unfold Md.plA
 by_cases h0 : mo = 0
 ·
  unfold Md.plR at hq
  rw [if_pos h0] at hq
  omega
 ·
  rw [if_neg h0]
  split
  ·
   split
   ·
    have : Dk (d.adD mo re) := by have := dk_plS hk mo re; unfold Md.plD at this; rw [if_neg h0] at this; exact this
    exact this.getb _
   · exact ad_w hk mo re hr
  · omega
theorem Dk.rga {t : Ms} (h : Dk t.d) (k : Nat) (v : Int) (v0 : 0 ≤ v) (v1 : v ≤ 65535) : Dk (t.rg k v).d := h.setR k v v0 v1
theorem Dk.rat {t : Ms} (h : Dk t.d) {k : Nat} (hk : k < 8) : 0 ≤ nAt t.d.r k ∧ nAt t.d.r k ≤ 65535 := h.rw _ (nAt_mem (by have := h.rl; omega))
structure Nx (d e : Md) : Prop where
 dk : Dk e
 out : d.o.length ≤ e.o.length
 inp : e.i.length ≤ d.i.length
theorem Nx.of {d e : Md} (h : Dk e) (i : Io d e) : Nx d e := ⟨h, by rw [i.1]; exact Nat.le_refl _, by rw [i.2]; exact Nat.le_refl _⟩
theorem nx_dos {t : Ms} (hk : Dk t.d) (op sm sr dm dr : Nat) (n : Int) (hi : InsN op sm sr dm dr n) (hb : t.doB op sm sr dm dr n = true) : Nx t.d (t.dos op sm sr dm dr n).d := by
 have l1 := hi.lo
 have l2 := hi.hi
 unfold Ms.dos
 by_cases h6 : op ≤ 6
 ·
  rw [if_pos h6]
  exact .of (dk_two (dk_op (dk_op hk sm sr) dm dr) op _ _ _) (((io_pl t.d sm sr).trans (io_pl _ dm dr)).trans (io_two ((t.op sm sr).op dm dr) op _ _ _))
 rw [if_neg h6]
 by_cases h13 : op ≤ 13
 ·
  rw [if_pos h13]
  exact .of (dk_one (dk_op hk dm dr) op _ _) ((io_pl t.d dm dr).trans (io_one (t.op dm dr) op _ _))
 rw [if_neg h13]
 by_cases h14 : op = 14
 ·
  subst h14
  rw [if_pos rfl]
  have d := hi.dst (by omega)
  have hq : t.d.plR dm dr = -1 := by
   have : tgO t dm dr = true := hb
   unfold tgO at this
   simp only [Bool.and_eq_true, beq_iff_eq] at this
   exact this.2
  have w := pl_w hk dm dr d.2 hq
  exact .of ((dk_op hk dm dr).rga 7 _ w.1 w.2) ((io_pl t.d dm dr).trans (io_reg _ 7 _))
 rw [if_neg h14]
 by_cases h15 : op = 15
 ·
  subst h15
  rw [if_pos rfl]
  have d := hi.dst (by omega)
  have r := hi.reg (.inl rfl)
  have hq : t.d.plR dm dr = -1 := by
   have : clO t dm dr = true := hb
   unfold clO tgO at this
   simp only [Bool.and_eq_true, beq_iff_eq] at this
   exact this.1.2
  have w := pl_w hk dm dr d.2 hq
  have k1 : Dk (t.op dm dr).go1.d := (dk_op hk dm dr).regS _ _
  have k2 : Dk ((t.op dm dr).go2 n.toNat).d := dk_stM k1 (-1) ((nAt (t.op dm dr).d.r 6 - 2) % 65536) (nAt (t.op dm dr).go1.d.r n.toNat)
  have v7 := k2.rat (t := (t.op dm dr).go2 n.toNat) (k := 7) (by omega)
  have k3 : Dk ((t.op dm dr).go3 n.toNat).d := k2.rga (t := (t.op dm dr).go2 n.toNat) n.toNat _ v7.1 v7.2
  exact .of (k3.rga (t := (t.op dm dr).go3 n.toNat) 7 _ w.1 w.2) (((((io_pl t.d dm dr).trans (io_reg _ 6 _)).trans (io_st _ _ _ _)).trans (io_reg _ n.toNat _)).trans (io_reg _ 7 _))
 rw [if_neg h15]
 by_cases h16 : op = 16
 ·
  subst h16
  rw [if_pos rfl]
  have r := hi.reg (.inr rfl)
  have v := hk.rat (t := t) (k := n.toNat) (by omega)
  have k1 : Dk (t.back1 n.toNat).d := hk.rga 7 _ v.1 v.2
  have k2 : Dk ((t.back1 n.toNat).rg 6 ((nAt t.d.r 6 + 2) % 65536)).d := k1.regS _ _
  have g := k1.getb (nAt t.d.r 6)
  exact .of (k2.rga (t := (t.back1 n.toNat).rg 6 ((nAt t.d.r 6 + 2) % 65536)) n.toNat _ g.1 g.2) (((io_reg _ 7 _).trans (io_reg _ 6 _)).trans (io_reg _ n.toNat _))
 rw [if_neg h16]
 by_cases h21 : op ≤ 21
 ·
  rw [if_pos h21]
  unfold Ms.branch
  split
  · exact .of (hk.regS _ _) (io_reg _ 7 _)
  · exact .of hk (.refl _)
 rw [if_neg h21]
 by_cases h22 : op = 22
 ·
  rw [if_pos h22]
  exact .of hk (.refl _)
 rw [if_neg h22]
 have hb2 : t.emtB n = true := by
  unfold Ms.doB at hb
  rw [if_neg (by omega), if_neg (by omega), if_neg (by omega), if_neg (by omega), if_neg (by omega)] at hb
  exact hb
 unfold Ms.emt
 unfold Ms.emtB at hb2
 by_cases n1 : n = 1
 ·
  rw [if_pos n1] at hb2 ⊢
  have hl : t.d.o.length < 50 := by simpa using hb2
  have v := hk.rat (t := t) (k := 0) (by omega)
  refine ⟨{ hk with ol := ?_, ow := ?_ }, ?_, Nat.le_refl _⟩
  ·
   show (t.d.o ++ [nAt t.d.r 0]).length ≤ 50
   simp; omega
  ·
   intro x hx
   rcases List.mem_append.1 hx with h | h
   · exact hk.ow x h
   · simp at h; subst h; exact v
  ·
   show t.d.o.length ≤ (t.d.o ++ [nAt t.d.r 0]).length
   simp
 ·
  rw [if_neg n1]
  cases hi2 : t.d.i with
  | nil => exact ⟨hk.rga 0 65535 (by omega) (by omega), Nat.le_refl _, Nat.le_refl _⟩
  | cons x xs =>
   have wx := hk.iw x (by rw [hi2]; simp)
   have k1 := hk.rga 0 x wx.1 wx.2
   refine ⟨{ k1 with il := ?_, iw := ?_ }, Nat.le_refl _, ?_⟩
   ·
    show xs.length ≤ 50
    have := hk.il; rw [hi2] at this; simp at this; omega
   ·
    intro z hz
    exact hk.iw z (by rw [hi2]; exact List.mem_cons_of_mem _ hz)
   ·
    show xs.length ≤ t.d.i.length
    rw [hi2]
    simp
theorem nx_stp {t : Ms} (hk : Dk t.d) (hb : t.stpB = true) : Nx t.d t.stp.d ∧ (t.stpS 0 = 0 ∨ t.stpS 0 = 1) := by
 unfold Ms.stpB Ms.insB at hb
 simp only [Bool.and_eq_true] at hb
 obtain ⟨⟨h1, h2⟩, h3⟩ := hb
 have hok : t.ins.ok = true := by unfold Ms.ins; unfold decOk at h2; simp only [Bool.and_eq_true] at h2; exact h2.2.2
 obtain ⟨op, sm, sr, dm, dr, e1, e2, e3, e4, e5, hi⟩ := is_nat hok
 have kn : Dk t.nxt.d := hk.regS _ _
 unfold Ms.stp Ms.stpS
 rw [show t.ins.op.toNat = op by omega, show t.ins.s.m.toNat = sm by omega, show t.ins.s.r.toNat = sr by omega, show t.ins.d.m.toNat = dm by omega, show t.ins.d.r.toNat = dr by omega] at *
 have q := nx_dos kn op sm sr dm dr t.ins.n hi h3
 refine ⟨⟨q.dk, q.out, q.inp⟩, ?_⟩
 unfold doS
 split
 · exact .inr rfl
 · exact .inl rfl
theorem small_stA (t : Ms) (st : Int) (h : t.d.small) : (t.stA st).d.small := by
 unfold Ms.stA
 split
 ·
  rename_i hc
  simp only [Bool.and_eq_true, beq_iff_eq] at hc
  exact (nx_stp (dk_of hc.1).1 hc.2.2).1.dk.small
 · exact h
def Ms.it : Nat → Ms → Int → Ms × Int
 | 0, t, st => (t, st)
 | k + 1, t, st => Ms.it k (t.stA st) (t.stN st)
theorem stA_off {t : Ms} {st : Int} (h : (t.d.ok st && st == 0) = false) : t.stA st = t ∧ t.stN st = st := by
 unfold Ms.stA Ms.stN
 rw [← Bool.and_assoc, h]
 simp
theorem it_off {t : Ms} {st : Int} (h : (t.d.ok st && st == 0) = false) : ∀ k, Ms.it k t st = (t, st)
 | 0 => rfl
 | k + 1 => by unfold Ms.it; rw [(stA_off h).1, (stA_off h).2]; exact it_off h k
theorem it_stand {t : Ms} {st : Int} (h : st ≠ 0) (k : Nat) : Ms.it k t st = (t, st) := it_off (by simp [h]) k
theorem small_it : ∀ (k : Nat) (t : Ms) (st : Int), t.d.small → (Ms.it k t st).1.d.small
 | 0, _, _, h => h
 | k + 1, t, st, h => by unfold Ms.it; exact small_it k _ _ (small_stA t st h)
def Ms.rn (t : Ms) (st n : Int) : Ms × Int := if 0 ≤ n ∧ n ≤ 2000 then Ms.it n.toNat t st else (t, st)
theorem rn_in (t : Ms) (st : Int) (k : Nat) (h : k ≤ 2000) : t.rn st (k : Int) = Ms.it k t st := by
 unfold Ms.rn
 rw [if_pos (by omega), Int.toNat_natCast]
theorem rn_out (t : Ms) (st n : Int) (h : ¬ (0 ≤ n ∧ n ≤ 2000)) : t.rn st n = (t, st) := by unfold Ms.rn; rw [if_neg h]
theorem small_rn (t : Ms) (st n : Int) (h : t.d.small) : (t.rn st n).1.d.small := by
 unfold Ms.rn
 split
 · exact small_it _ _ _ h
 · exact h
theorem stA_dk {t : Ms} (h : Dk t.d) : t.stA 0 = (if t.stpB = true then t.stp else t) ∧ t.stN 0 = (if t.stpB = true then t.stpS 0 else 2) := by
 unfold Ms.stA Ms.stN
 have k := h.ok 0 (by omega) (by omega)
 simp [k]
theorem dk_stA {t : Ms} (h : Dk t.d) : Dk (t.stA 0).d := by
 rw [(stA_dk h).1]
 split
 ·
  rename_i hb
  exact (nx_stp h hb).1.dk
 · exact h
theorem nAt_setQ {ns : List Int} {k i : Nat} {v : Int} (hk : k < ns.length) : nAt (ns.set k v) i = if i = k then v else nAt ns i := by
 unfold nAt
 rw [List.getD_eq_getElem?_getD, List.getD_eq_getElem?_getD, List.getElem?_set]
 by_cases e : k = i
 · subst e; simp [hk]
 · rw [if_neg e, if_neg (fun c => e c.symm)]
theorem OwnO.setAt {w : World} {B g off n cap : Nat} {ns : List Int} (h : OwnO w B ⟨some ⟨g, off, none⟩, n, cap⟩ ns) (k : Nat) (v : Int) (hk : k < ns.length) :
  OwnO (w.setCell ⟨g, off + k, none⟩ (.int .i64 v)) B ⟨some ⟨g, off, none⟩, n, cap⟩ (ns.set k v) ∧ w.grownBy (w.setCell ⟨g, off + k, none⟩ (.int .i64 v)) (some g) ∧ w.cell? ⟨g, off + k, none⟩ = some (.int .i64 (nAt ns k)) ∧ w.frozen? ⟨g, off + k, none⟩ = false := by
 rcases h with ⟨e, _⟩ | ⟨g', off', cap', e, hB, h1, h2, ⟨cur, hc, h3⟩, h4⟩
 · cases e
 ·
  simp only [Sl.mk.injEq, Option.some.injEq, Addr.mk.injEq, and_true] at e
  obtain ⟨⟨rfl, rfl⟩, rfl, rfl⟩ := e
  have hrow : (w.setCell ⟨g, off + k, none⟩ (.int .i64 v)).heap[g]? = some (.cells (cur.setIfInBounds (off + k) (.int .i64 v)) 3 (0, 0)) := by
   rw [setCell_eq_setRow w g (off + k) cur 3 (0, 0) _ hc]
   exact setRow_heap w g _ _ 3 _ hc
  refine ⟨.inr ⟨g, off, cap, by simp, hB, by simpa using h1, h2, ⟨_, hrow, by simpa using h3⟩, fun i hi => ?_⟩, grownBy_set (b := g) (o := off + k) _, h4 k hk, by simp [World.frozen?, hc]⟩
  have hi' : i < ns.length := by simpa using hi
  rw [cell_of_row _ g (off + i) _ 3 _ hrow, nAt_setQ hk]
  by_cases e : i = k
  ·
   subst e
   rw [if_pos rfl, Array.getElem?_setIfInBounds_self_of_lt (by omega)]
  ·
   rw [if_neg e, Array.getElem?_setIfInBounds_ne (by omega), ← cell_of_row w g (off + i) cur 3 _ hc]
   exact h4 i hi'
theorem mark_list (k0 k : Nat) (xs : List Int) (hk : k < xs.length) : (markN k0 k ++ xs.drop k).set k ((k0 : Int) + k) = markN k0 (k + 1) ++ xs.drop (k + 1) := by
 have e : xs.drop k = xs[k] :: xs.drop (k + 1) := List.drop_eq_getElem_cons hk
 rw [e, List.set_append_right _ _ (by rw [markN_length]; omega), markN_length, Nat.sub_self, List.set_cons_zero]
 unfold markN
 rw [List.range_succ, List.map_append, List.append_assoc]
 rfl
theorem markO_any (b off len cap k0 : Nat) (xs : List Int) (B : Nat) (w : World) (hl : xs.length = len) (hm : len ≤ 1099511627776) (hk0 : k0 ≤ 8388608) (hown : OwnO w B ⟨some ⟨b, off, none⟩, len, cap⟩ xs) :
  Calls Tryz.prog 19 #[.slice (some ⟨b, off, none⟩) len cap, .int .i64 k0] w fun e w' => e = .returned (.int .i64 ((k0 : Int) + len)) ∧ OwnO w' B ⟨some ⟨b, off, none⟩, len, cap⟩ (markN k0 len) ∧ w.grownBy w' (some b) := by
 go_enter Tryz.func19, Tryz.ntmps19
 go_wp2
 go_loopw [1, 5] (fun kk i wr => ∃ k : Nat, k ≤ len ∧ i = .int .i64 k ∧ kk = .int .i64 ((k0 : Int) + k) ∧ OwnO wr B ⟨some ⟨b, off, none⟩, len, cap⟩ (markN k0 k ++ xs.drop k) ∧ w.grownBy wr (some b)) (fun _ i _ => len - (intOf i).toNat)
 case atStart => exact ⟨0, Nat.zero_le _, rfl, by simp, by simpa [markN, hl] using hown, World.grownBy.refl _ _⟩
 case round =>
  clear hown
  obtain ⟨k, hk, rfl, rfl, hown, hg⟩ := hrel
  by_cases hlt : k < len
  ·
   obtain ⟨o2, g2, hcx, hfz⟩ := hown.setAt k ((k0 : Int) + k) (by rw [List.length_append, markN_length, List.length_drop]; omega)
   rw [mark_list k0 k xs (by omega)] at o2
   have st1 := hide o2
   have st2 := hide (grownBy_trans hg g2)
   generalize nAt (markN k0 k ++ xs.drop k) k = u at hcx
   clear hown o2 g2 hg
   go_wp2
   go_roundw
   case rel => exact ⟨k + 1, by omega, by go_num, by go_num, uh st1, uh st2⟩
   case measure => simp [intOf]; omega
  ·
   go_wp2
   go_ret
   obtain rfl : k = len := by omega
   refine ⟨rfl, ?_, hg⟩
   rw [List.drop_eq_nil_of_le (by omega), List.append_nil] at hown
   exact hown
theorem markO_own (s : Sl) (ns : List Int) (B k0 : Nat) (w : World) (hm : ns.length ≤ 1048576) (hk : k0 ≤ 8388608) (h : OwnO w B s ns) :
  Calls Tryz.prog 19 #[.slice s.a s.n s.c, .int .i64 (k0 : Int)] w fun e w' => e = .returned (.int .i64 ((k0 : Int) + ns.length)) ∧ OwnO w' B s (markN k0 ns.length) ∧ w.grownBy w' s.v.ownBlock := by
 rcases id h with ⟨rfl, rfl⟩ | ⟨g, off, cap, rfl, _⟩
 · exact (markL_none k0 w (by omega)).mono fun e w' ⟨he, hw⟩ => by subst hw; exact ⟨by simpa using he, .inl ⟨rfl, rfl⟩, World.grownBy.refl _ _⟩
 · exact (markO_any g off ns.length cap k0 ns B w rfl (by omega) (by omega) h).mono fun e w' ⟨he, ho, hg⟩ => ⟨he, ho, hg⟩
theorem OwnE.tch {w w' : World} {B : Nat} {x y : Mv} {d : Md} (h : OwnE w B y d) (t : Tch w w' x) (hap : ∀ b, y.at b → x.at b → False) : OwnE w' B y d := h.keepH fun g hg hl => t.block g hl (fun e => hap g hg e)
theorem OwnO.nz {w : World} {B : Nat} {s : Sl} {ns : List Int} (h : OwnO w B s ns) : s.nz := by
 rcases h with ⟨rfl, _⟩ | ⟨g, off, cap, rfl, _⟩
 · exact fun _ => rfl
 · exact fun c => by cases c
theorem OwnE.nz {w : World} {B : Nat} {x : Mv} {d : Md} (h : OwnE w B x d) : x.nz := ⟨h.m.nz, h.r.nz, h.i.nz, h.o.nz⟩
theorem markE_any (x : Mv) (d : Md) (B : Nat) (w : World) (hs : d.small) (ho : OwnE w B x d) : Calls Tryz.prog 9 #[.agg x.cs, .int .i64 1] w fun e w' => e = .returned (.int .i64 d.tot) ∧ OwnE w' B x d.marks ∧ Tch w w' x := by
 obtain ⟨s0, s1, s2, s3⟩ := hs
 have b0 := below_new w (.cells x.cs 26)
 have R0 := hide (heap_alloc_last w (.cells x.cs 26))
 have NB : Hid (¬ x.at w.heap.size) := hide (fun e => by have := (ho.lo e).2; omega)
 have T0 := hide (Tch.below (x := x) b0)
 have O := hide (ho.later b0)
 have q0 : x.cs[0]? = some (.slice x.m.a x.m.n x.m.c) := rfl
 have M := hide (markL_own x.m d.m B 1 (w.alloc (.cells x.cs 26)) s0 (by omega) (uh O).m)
 clear ho b0
 go_enter Tryz.func9, Tryz.ntmps9
 go_wp2_with fail
 refine (uh M).mono ?_
 rintro e w1 ⟨rfl, om, gm⟩
 have R1 := hide ((gm.block w.heap.size (row_lt (uh R0)) (fun e => uh NB (.inl e.symm))).trans (uh R0))
 have T1 := hide ((uh T0).grown gm (fun b e => .inl e))
 have OM := hide om
 have OR := hide ((uh O).r.keep fun g hv hl => gm.block g hl (fun e => (uh O).mr g e.symm hv))
 have OI := hide ((uh O).i.keep fun g hv hl => gm.block g hl (fun e => (uh O).mi g e.symm hv))
 have OO := hide ((uh O).o.keep fun g hv hl => gm.block g hl (fun e => (uh O).mo g e.symm hv))
 clear om gm M q0 R0 T0
 have q1 := row_r (uh R1)
 have M := hide (markL_own x.r d.r B (1 + d.m.length) w1 s1 (by omega) (uh OR))
 go_wp2_with fail
 refine (uh M).mono ?_
 rintro e w2 ⟨rfl, om, gm⟩
 have R2 := hide ((gm.block w.heap.size (row_lt (uh R1)) (fun e => uh NB (.inr (.inl e.symm)))).trans (uh R1))
 have T2 := hide ((uh T1).grown gm (fun b e => .inr (.inl e)))
 have PM := hide ((uh OM).keep fun g hv hl => gm.block g hl (fun e => (uh O).mr g hv e.symm))
 have PR := hide om
 have PI := hide ((uh OI).keep fun g hv hl => gm.block g hl (fun e => (uh O).ri g e.symm hv))
 have PO := hide ((uh OO).keep fun g hv hl => gm.block g hl (fun e => (uh O).ro g e.symm hv))
 clear om gm M q1 R1 T1 OM OR OI OO
 have q6 := row_i (uh R2)
 have M := hide (markO_own x.i d.i B (1 + d.m.length + d.r.length) w2 s2 (by omega) (uh PI))
 go_wp2_with fail
 refine (uh M).mono ?_
 rintro e w3 ⟨rfl, om, gm⟩
 have R3 := hide ((gm.block w.heap.size (row_lt (uh R2)) (fun e => uh NB (.inr (.inr (.inl e.symm))))).trans (uh R2))
 have T3 := hide ((uh T2).grown gm (fun b e => .inr (.inr (.inl e))))
 have OM := hide ((uh PM).keep fun g hv hl => gm.block g hl (fun e => (uh O).mi g hv e.symm))
 have OR := hide ((uh PR).keep fun g hv hl => gm.block g hl (fun e => (uh O).ri g hv e.symm))
 have OI := hide om
 have OO := hide ((uh PO).keep fun g hv hl => gm.block g hl (fun e => (uh O).io g e.symm hv))
 clear om gm M q6 R2 T2 PM PR PI PO
 have q7 := row_o (uh R3)
 have M := hide (markL_own x.o d.o B (1 + d.m.length + d.r.length + d.i.length) w3 s3 (by omega) (uh OO))
 go_wp2_with fail
 refine (uh M).mono ?_
 rintro e w4 ⟨rfl, om, gm⟩
 have T4 := hide ((uh T3).grown gm (fun b e => .inr (.inr (.inr e))))
 have PM := hide ((uh OM).keep fun g hv hl => gm.block g hl (fun e => (uh O).mo g hv e.symm))
 have PR := hide ((uh OR).keep fun g hv hl => gm.block g hl (fun e => (uh O).ro g hv e.symm))
 have PI := hide ((uh OI).keep fun g hv hl => gm.block g hl (fun e => (uh O).io g hv e.symm))
 have PO := hide om
 clear om gm M q7 R3 T3 OM OR OI OO
 go_wp2
 go_ret
 exact ⟨by unfold Md.tot; rfl, { (uh O) with m := uh PM, r := uh PR, i := uh PI, o := uh PO }, uh T4⟩
end Go.Proofs.YtboedaofbchdkaaGreatDoor
