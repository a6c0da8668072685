/- Contracts over this seat's translation, laid together; conditions stand as hypotheses of each. -/
import Derived.Test.YtjpbjbnialehbaaDoorAsO
import Derived.Test.YtjpbjbnialehbaaDoorAsS

namespace Go.Proofs.YtjpbjbnialehbaaDoor
open Go.ChangeShapes Go.WideShapes Go.ChangeAt Go.RowKit
set_option linter.unusedVariables false
set_option maxRecDepth 8000
set_option linter.unusedSimpArgs false
set_option maxHeartbeats 2000000 in
theorem answerE_any (g B : Nat) (mem ms : List Int) (y : Mv) (w : World) (hm : mem.length = 256) (hg : w.heap[g]? = some (.cells (bigA mem y) 45 (0, 0))) (ho : OwnN w B y.m.v ms) (hB : some g ≠ y.m.v.ownBlock) :
    Calls Tryd.prog 19 #[.pointer (some ⟨g, 0, none⟩)] w fun e w' => e = .returned (.agg y.cs) ∧ OwnN w' B y.m.v (mem.take ms.length ++ ms.drop 256) ∧ w.grownBy w' y.m.v.ownBlock := by
  have b1 := (below_new w (.cells #[Value.slice none 0 0, Value.slice none 0 0, Value.bool false, Value.bool false, Value.bool false, Value.bool false, Value.slice none 0 0, Value.slice none 0 0, Value.int .i64 0] 32)).trans ((below_drew (w := w.alloc (.cells #[Value.slice none 0 0, Value.slice none 0 0, Value.bool false, Value.bool false, Value.bool false, Value.bool false, Value.slice none 0 0, Value.slice none 0 0, Value.int .i64 0] 32))).mono (below_new w (.cells #[Value.slice none 0 0, Value.slice none 0 0, Value.bool false, Value.bool false, Value.bool false, Value.bool false, Value.slice none 0 0, Value.slice none 0 0, Value.int .i64 0] 32)).size)
  have g1 := row_lat hg b1
  have r1 : (w.alloc (.cells #[Value.slice none 0 0, Value.slice none 0 0, Value.bool false, Value.bool false, Value.bool false, Value.bool false, Value.slice none 0 0, Value.slice none 0 0, Value.int .i64 0] 32)).drew.heap[w.heap.size]? = some (.cells #[Value.slice none 0 0, Value.slice none 0 0, Value.bool false, Value.bool false, Value.bool false, Value.bool false, Value.slice none 0 0, Value.slice none 0 0, Value.int .i64 0] 32 (0, 0)) := heap_alloc_last w _
  have o1 := ho.later b1
  obtain ⟨w2, k, hcp, hn, hgr⟩ := copy_out y.m ms mem y g B (w.alloc (.cells #[Value.slice none 0 0, Value.slice none 0 0, Value.bool false, Value.bool false, Value.bool false, Value.bool false, Value.slice none 0 0, Value.slice none 0 0, Value.int .i64 0] 32)).drew g1 hm o1
  have O2 := hide hn
  have G2 := hide ((hgr.block g (row_lt g1) hB).trans g1)
  have R2 := hide ((hgr.block w.heap.size (row_lt r1) (own_ne ho (.inr (Nat.le_refl _)))).trans r1)
  have GR := hide (grownBy_trans (grownBy_below b1) hgr)
  have HO := hide ho
  have C1 := hide (big_cell g1 hm 0 _ rfl)
  have CP := hide hcp
  clear hcp hn hgr o1 r1 b1 ho hg
  go_enter Tryd.func19, Tryd.ntmps19
  go_wp2_with fail
  refine wp_region_held_drew (S := fun w' => w'.cell? ⟨g, 256, none⟩ = some (.slice y.m.a y.m.n y.m.c)) (by kernel_rfl) (unhide C1) (fun hS => ?_)
  have HS := hide hS
  clear hS
  refine wpAnyH_take (i := 0) (v := .pointer (some ⟨g, 0, none⟩)) rfl (by kernel_rfl) (by kernel_rfl) (by kernel_rfl) (fun _ _ _ h => h) (Or.inl ⟨by rfl, fun w hc => ?_⟩) (unhide HS) ?_
  · clear hc; go_simp
  go_simp
  refine wpAnyH_take (i := 1) (v := .pointer (some ⟨g, 0, none⟩)) rfl (by kernel_rfl) (by kernel_rfl) (by kernel_rfl) (fun _ _ _ h => h) (Or.inl ⟨by rfl, fun w hc => ?_⟩) (unhide HS) ?_
  · clear hc; go_simp
  go_simp
  refine wpAnyH_take (i := 2) (v := .pointer (some ⟨g, 256, none⟩)) rfl (by kernel_rfl) (by kernel_rfl) (by kernel_rfl) (fun _ _ _ h => h) (Or.inl ⟨by rfl, fun w hc => ?_⟩) (unhide HS) ?_
  · clear hc; go_simp
  go_simp
  refine wpAnyH_take (i := 3) (v := .pointer (some ⟨g, 256, none⟩)) rfl (by kernel_rfl) (by kernel_rfl) (by kernel_rfl) (fun _ _ _ h => h) (Or.inl ⟨by rfl, fun w hc => ?_⟩) (unhide HS) ?_
  · clear hc; go_simp
  go_simp
  refine wpAnyH_take (i := 4) (v := .slice y.m.a y.m.n y.m.c) rfl (by kernel_rfl) (by kernel_rfl) (by kernel_rfl) (fun _ _ _ h => h) (Or.inl ⟨by rfl, fun w hc => ?_⟩) (unhide HS) ?_
  · go_simp
  go_simp
  refine wpAnyH_take (i := 5) (v := .pointer (some ⟨g, 0, none⟩)) rfl (by kernel_rfl) (by kernel_rfl) (by kernel_rfl) (fun _ _ _ h => h) (Or.inl ⟨by rfl, fun w hc => ?_⟩) (unhide HS) ?_
  · clear hc; go_simp
  go_simp
  refine wpAnyH_take (i := 6) (v := .pointer (some ⟨g, 0, none⟩)) rfl (by kernel_rfl) (by kernel_rfl) (by kernel_rfl) (fun _ _ _ h => h) (Or.inl ⟨by rfl, fun w hc => ?_⟩) (unhide HS) ?_
  · clear hc; go_simp
  go_simp
  refine wpAnyH_take (i := 7) (v := .pointer (some ⟨g, 0, none⟩)) rfl (by kernel_rfl) (by kernel_rfl) (by kernel_rfl) (fun _ _ _ h => h) (Or.inl ⟨by rfl, fun w hc => ?_⟩) (unhide HS) ?_
  · clear hc; go_simp
  go_simp
  refine wpAnyH_take (i := 8) (v := .slice (some ⟨g, 0, none⟩) 256 256) rfl (by kernel_rfl) (by kernel_rfl) (by kernel_rfl) (fun _ _ _ h => h) (Or.inl ⟨by rfl, fun w hc => ?_⟩) (unhide HS) ?_
  · clear hc; go_simp
  go_simp
  refine wpAnyH_ready (rs := [9]) (by kernel_rfl) (by simp) ?_
  refine AllReadyH.cons rfl (fun K hK => ?_) AllReadyH.nil
  have hcp := unhide CP
  go_simp
  refine hK.out _ _ (big_cell (unhide G2) hm 0 _ rfl) (fun _ => ?_)
  clear hK K hcp CP HS C1
  refine wpAnyH_done (by kernel_rfl) ?_ _
  have c0 : w2.cell? ⟨g, 256, none⟩ = some (.slice y.m.a y.m.n y.m.c) := big_cell (unhide G2) hm 0 _ rfl
  have c1 : w2.cell? ⟨g, 257, none⟩ = some (.slice y.r.a y.r.n y.r.c) := big_cell (unhide G2) hm 1 _ rfl
  have c2 : w2.cell? ⟨g, 258, none⟩ = some (.bool y.n) := big_cell (unhide G2) hm 2 _ rfl
  have c3 : w2.cell? ⟨g, 259, none⟩ = some (.bool y.z) := big_cell (unhide G2) hm 3 _ rfl
  have c4 : w2.cell? ⟨g, 260, none⟩ = some (.bool y.v) := big_cell (unhide G2) hm 4 _ rfl
  have c5 : w2.cell? ⟨g, 261, none⟩ = some (.bool y.c) := big_cell (unhide G2) hm 5 _ rfl
  have c6 : w2.cell? ⟨g, 262, none⟩ = some (.slice y.i.a y.i.n y.i.c) := big_cell (unhide G2) hm 6 _ rfl
  have c7 : w2.cell? ⟨g, 263, none⟩ = some (.slice y.o.a y.o.n y.o.c) := big_cell (unhide G2) hm 7 _ rfl
  have c8 : w2.cell? ⟨g, 264, none⟩ = some (.int .i64 y.st) := big_cell (unhide G2) hm 8 _ rfl
  go_wp2_with (refine wpList_store_row rfl 32 _ _ rfl w.heap.size y.cs rfl rfl 32 zC (unhide R2) (by kernel_rfl) rfl (Mv.cs_one _) ?_)
  refine bodyPost_ret (results_cell_row (P := Tryd.prog) rfl _ _ w.heap.size 32 y.cs (0, 0) _ rfl (setRow_heap w2 _ _ _ 32 _ (unhide R2)) Tryd.underlying32 rfl (by kernel_rfl)) rfl ?_
  exact ⟨rfl, (unhide O2).keep fun q hv _ => setRow_other _ _ q _ (by have := ((unhide HO).lt hv).2; omega), grownBy_own (unhide GR) (grownBy_setRow _) (fun b e => by cases e; exact Nat.le_refl _)⟩
theorem yields_loadQ {P : Program} {ops : Array Oper} {S : World → Prop} {o : Oper} {a : Act} (hw : Region.wanted o (yielded ops a.tmps) = true) (ty : TypeId) (x : Operand) (ho : o.op = .load ty x) (g : Nat) (hx : a.eval x = .pointer (some ⟨g, 0, none⟩)) (t : TypeId) (cs : Array Value) (d : TypeDesc)
    (hS : ∀ w, S w → w.heap[g]? = some (.cells cs t (0, 0))) (hu : P.underlying ty = some d) (hd : (match d with | .struct _ | .array _ _ => true | _ => false) = true) (hi : (P.info? ty).map (·.size) = some cs.size) : YieldsIf P ops S o (.agg cs) a := by
  refine .inl ⟨hw, fun w hw => ?_⟩
  simp only [execOp, ho, hx, Instr.loadAt, Instr.sureAddr, Sem.run_bind, Sem.run_pure, Result.andThen_ok, run_loadVar_row w g t ty cs (0, 0) d (hS w hw) hu hd hi]
/-- The numbers of an instruction that is right, as they count. -/
theorem is_nat {i : Is} (h : i.ok = true) : ∃ op sm sr dm dr : Nat, i.op = (op : Int) ∧ i.s.m = (sm : Int) ∧ i.s.r = (sr : Int) ∧ i.d.m = (dm : Int) ∧ i.d.r = (dr : Int) ∧ InsN op sm sr dm dr i.n := by
  obtain ⟨h1, h2, h3, h4, h5, h6, h7, h8, h9, -⟩ := is_ok h
  have hs : (0 ≤ i.s.m ∧ i.s.m ≤ 7) ∧ (0 ≤ i.s.r ∧ i.s.r ≤ 7) := by
    by_cases c : i.op ≤ 6
    · have := h2 c
      unfold Od.ok inB at this
      simp at this
      omega
    · have := h4 (by omega)
      unfold Od.zero at this
      simp at this
      omega
  have hd : (0 ≤ i.d.m ∧ i.d.m ≤ 7) ∧ (0 ≤ i.d.r ∧ i.d.r ≤ 7) := by
    by_cases c : i.op ≤ 15
    · have := h3 c
      unfold Od.ok inB at this
      simp at this
      omega
    · have := h5 (by omega)
      unfold Od.zero at this
      simp at this
      omega
  refine ⟨i.op.toNat, i.s.m.toNat, i.s.r.toNat, i.d.m.toNat, i.d.r.toNat, by omega, by omega, by omega, by omega, by omega, ⟨by omega, by omega, fun _ => by omega, fun _ => by omega, fun hh => h8 (by omega), fun _ => by omega⟩⟩
/-- Behind the first word. -/
def Ms.nxt (t : Ms) : Ms := t.rg 7 ((nAt t.d.r 7 + 2) % 65536)
def Ms.ins (t : Ms) : Is := decX t.d.m (nAt t.d.r 7 / 2)
def Ms.insB (t : Ms) : Bool := adB (nAt t.d.r 7) && decOk t.d.m (nAt t.d.r 7 / 2)
/-- Whether a step is none that faults. -/
def Ms.stpB (t : Ms) : Bool := t.insB && t.nxt.doB t.ins.op.toNat t.ins.s.m.toNat t.ins.s.r.toNat t.ins.d.m.toNat t.ins.d.r.toNat t.ins.n
/-- What it leaves. -/
def Ms.stp (t : Ms) : Ms := t.nxt.dos t.ins.op.toNat t.ins.s.m.toNat t.ins.s.r.toNat t.ins.d.m.toNat t.ins.d.r.toNat t.ins.n
def Ms.stpS (t : Ms) (st : Int) : Int := doS t.ins.op.toNat st
theorem Tab.fm {w w' : World} {g : Nat} {y y' : Mv} (h : Tab w) (f : Fm w w' g y y') (hg : 0 ≠ g) (hy : ¬ y.at 0) : Tab w' :=
  ⟨Nat.lt_of_lt_of_le h.1 f.size, fun k hk => by have e := f.blk 0 h.1 hg hy; have := h.2 k hk; unfold World.cell? at this ⊢; simp only [e]; exact this⟩
theorem wd_bds {ns : List Int} (h : Wd ns) : Bds ns := fun i hi => by have := h _ (nAt_mem hi); omega
theorem Pz.mem {w : World} {g B gr rc : Nat} {y : Mv} {t : Ms} {st : Int} {m0 : List Int} (h : Pz w g B gr rc y t st m0) : RdN w (some ⟨g, 0, none⟩) t.d.m :=
  .inr ⟨g, 0, rfl, h.gl, fun i hi => by rw [Nat.zero_add]; exact (cell_of_row w g i _ 45 _ h.row).trans (bigA_mem y h.len (by have := h.len; omega))⟩
set_option maxHeartbeats 4000000 in
theorem step_odd (g B gr rc : Nat) (y : Mv) (t : Ms) (st : Int) (w : World) (h : Pz w g B gr rc y t st t.d.m) (hk : Dk t.d) (ht : Tab w) (hB : 0 < B) (hno : adB (nAt t.d.r 7) = false) (t2 : Ms) (st2 : Int) : Calls Tryd.prog 22 #[.pointer (some ⟨g, 0, none⟩)] w (DoE g B y t2 st2 false w) := by
  have c1 := h.cr
  have AR := hide h.atr
  have G0 := hide (show 0 ≠ g by have := h.lo; omega)
  have Y0 := hide (show ¬ y.at 0 from fun e => by have := (h.own.lo e).1; omega)
  have TB := hide ht
  obtain ⟨a0, a1⟩ := hk.rw _ (nAt_mem (show 7 < t.d.r.length by have := hk.rl; omega))
  have GB := hide (goOn_any g B gr rc 7 y t.d w h.pg (by rw [hk.rl]; omega) a0 a1)
  have GO := hide (show ∀ v, Pg v g B gr rc y (t.d.reg 7 ((nAt t.d.r 7 + 2) % 65536)) → Pz v g B gr rc y t.nxt st t.d.m from fun v p => h.ofPg p)
  have K2 := hide (show Dk t.nxt.d from hk.regS _ _)
  have IA := hide (fun v => isAddr_any (nAt t.d.r 7) v)
  rw [hno] at IA
  unfold DoE
  generalize t.d.reg 7 ((nAt t.d.r 7 + 2) % 65536) = dd at GB GO
  generalize nAt t.d.r 7 = v7 at GB IA a0 a1
  clear h hk ht hno
  go_enter Tryd.func22, Tryd.ntmps22
  go_wp2_with fail
  refine (unhide GB).mono ?_
  rintro e w2 ⟨rfl, p2, g2⟩
  have H2 := hide (unhide GO _ p2)
  have F2 := hide (Fm.grownR (g := g) g2 (unhide AR))
  clear p2 g2 GB GO
  go_wp2_with fail
  refine (unhide IA _).mono ?_
  rintro e w9 ⟨rfl, hw9⟩
  rw [hw9]
  clear hw9 w9
  go_wp2
  go_ret
  first | exact ⟨y, rfl, ⟨fun h => by simp at h, unhide F2⟩⟩ | exact ⟨rfl, y, ⟨fun h => by simp at h, unhide F2⟩⟩
set_option maxHeartbeats 4000000 in
theorem step_none (g B gr rc : Nat) (y : Mv) (t : Ms) (st : Int) (w : World) (h : Pz w g B gr rc y t st t.d.m) (hk : Dk t.d) (ht : Tab w) (hB : 0 < B) (hyes : adB (nAt t.d.r 7) = true) (hno : decOk t.d.m (nAt t.d.r 7 / 2) = false) (t2 : Ms) (st2 : Int) : Calls Tryd.prog 22 #[.pointer (some ⟨g, 0, none⟩)] w (DoE g B y t2 st2 false w) := by
  have c1 := h.cr
  have AR := hide h.atr
  have G0 := hide (show 0 ≠ g by have := h.lo; omega)
  have Y0 := hide (show ¬ y.at 0 from fun e => by have := (h.own.lo e).1; omega)
  have TB := hide ht
  obtain ⟨a0, a1⟩ := hk.rw _ (nAt_mem (show 7 < t.d.r.length by have := hk.rl; omega))
  have GB := hide (goOn_any g B gr rc 7 y t.d w h.pg (by rw [hk.rl]; omega) a0 a1)
  have GO := hide (show ∀ v, Pg v g B gr rc y (t.d.reg 7 ((nAt t.d.r 7 + 2) % 65536)) → Pz v g B gr rc y t.nxt st t.d.m from fun v p => h.ofPg p)
  have K2 := hide (show Dk t.nxt.d from hk.regS _ _)
  have IA := hide (fun v => isAddr_any (nAt t.d.r 7) v)
  rw [hyes] at IA
  obtain ⟨k, hk2⟩ := Int.eq_ofNat_of_zero_le (show 0 ≤ nAt t.d.r 7 / 2 by omega)
  have hq := quo2 a0 (by omega) hk2
  have DE := hide (fun v (p : Pz v g B gr rc y t.nxt st t.d.m) (tb : Tab v) => decI_any (some ⟨g, 0, none⟩) 256 256 t.d.m (k : Int) v tb hk.ml (by omega) p.mem (wd_bds hk.mw))
  unfold decV at DE
  rw [hk2] at hno
  rw [hno] at DE
  generalize decN t.d.m (k : Int) = dn at DE
  generalize decIs t.d.m (k : Int) = di at DE
  obtain ⟨op, ⟨sm, sr, sx⟩, ⟨dm, dr, dx⟩, n⟩ := di
  unfold Is.v at DE
  simp only at DE
  unfold DoE
  generalize t.d.reg 7 ((nAt t.d.r 7 + 2) % 65536) = dd at GB GO
  generalize nAt t.d.r 7 = v7 at GB IA a0 a1 hq hk2
  clear h hk ht hno hyes
  go_enter Tryd.func22, Tryd.ntmps22
  go_wp2_with fail
  refine (unhide GB).mono ?_
  rintro e w2 ⟨rfl, p2, g2⟩
  have H2 := hide (unhide GO _ p2)
  have F2 := hide (Fm.grownR (g := g) g2 (unhide AR))
  clear p2 g2 GB GO
  go_wp2_with fail
  refine (unhide IA _).mono ?_
  rintro e w9 ⟨rfl, hw9⟩
  rw [hw9]
  clear hw9 w9
  have DC := hide (unhide DE _ (unhide H2) ((unhide TB).fm (unhide F2) (unhide G0) (unhide Y0)))
  clear c1
  go_wp2_with fail
  refine (unhide DC).mono ?_
  rintro e w3 ⟨rfl, b3⟩
  have F3 := hide (((unhide F2).trans (Fm.of b3)).trans (Fm.of (below_new w3 (Obj.cells #[.int .i64 op, .int .i64 sm, .int .i64 sr, .int .i64 sx, .int .i64 dm, .int .i64 dr, .int .i64 dx, .int .i64 n] 30))))
  clear b3 DC DE
  go_wp2_with (refine wpList_store_new rfl 30 _ _ rfl #[.int .i64 op, .int .i64 sm, .int .i64 sr, .int .i64 sx, .int .i64 dm, .int .i64 dr, .int .i64 dx, .int .i64 n] rfl rfl _ (by kernel_rfl) rfl rfl ?_)
  generalize w3.alloc (Obj.cells #[.int .i64 op, .int .i64 sm, .int .i64 sr, .int .i64 sx, .int .i64 dm, .int .i64 dr, .int .i64 dx, .int .i64 n] 30) = w4 at F3 ⊢
  go_quiet (fail)
  go_wp2
  go_ret
  have FD : ∀ m, Fm w (w4.drewN m) g y y := fun m => (unhide F3).trans (Fm.of (below_drewN (Below.refl _ _) m))
  first | exact ⟨y, rfl, ⟨fun h => by simp at h, FD _⟩⟩ | exact ⟨rfl, y, ⟨fun h => by simp at h, FD _⟩⟩
set_option maxHeartbeats 8000000 in
theorem step_do (g B gr rc : Nat) (y : Mv) (t : Ms) (st : Int) (w : World) (h : Pz w g B gr rc y t st t.d.m) (hk : Dk t.d) (ht : Tab w) (hB : 0 < B) (hyes : adB (nAt t.d.r 7) = true) (hok : decOk t.d.m (nAt t.d.r 7 / 2) = true) (op sm sr dm dr : Nat) (sx dx n : Int) (hx : t.ins = ⟨op, ⟨sm, sr, sx⟩, ⟨dm, dr, dx⟩, n⟩) (hi : InsN op sm sr dm dr n) :
    Calls Tryd.prog 22 #[.pointer (some ⟨g, 0, none⟩)] w (DoE g B y (t.nxt.dos op sm sr dm dr n) (doS op st) (t.nxt.doB op sm sr dm dr n) w) := by
  have c1 := h.cr
  have AR := hide h.atr
  have G0 := hide (show 0 ≠ g by have := h.lo; omega)
  have Y0 := hide (show ¬ y.at 0 from fun e => by have := (h.own.lo e).1; omega)
  have TB := hide ht
  obtain ⟨a0, a1⟩ := hk.rw _ (nAt_mem (show 7 < t.d.r.length by have := hk.rl; omega))
  have GB := hide (goOn_any g B gr rc 7 y t.d w h.pg (by rw [hk.rl]; omega) a0 a1)
  have GO := hide (show ∀ v, Pg v g B gr rc y (t.d.reg 7 ((nAt t.d.r 7 + 2) % 65536)) → Pz v g B gr rc y t.nxt st t.d.m from fun v p => h.ofPg p)
  have K2 := hide (show Dk t.nxt.d from hk.regS _ _)
  have IA := hide (fun v => isAddr_any (nAt t.d.r 7) v)
  rw [hyes] at IA
  obtain ⟨k, hk2⟩ := Int.eq_ofNat_of_zero_le (show 0 ≤ nAt t.d.r 7 / 2 by omega)
  have hq := quo2 a0 (by omega) hk2
  have DE := hide (fun v (p : Pz v g B gr rc y t.nxt st t.d.m) (tb : Tab v) => decI_any (some ⟨g, 0, none⟩) 256 256 t.d.m (k : Int) v tb hk.ml (by omega) p.mem (wd_bds hk.mw))
  unfold decV at DE
  unfold Ms.ins at hx
  rw [hk2] at hok hx
  have hdi : decIs t.d.m (k : Int) = ⟨op, ⟨sm, sr, sx⟩, ⟨dm, dr, dx⟩, n⟩ := by unfold decIs; rw [if_pos hok]; exact hx
  rw [hok, hdi] at DE
  generalize decN t.d.m (k : Int) = dn at DE
  unfold Is.v at DE
  simp only at DE
  have AO := hide (fun v => actionOf_any op hi.lo hi.hi v)
  have DV := hide (fun v b C (p : Pz v g B gr rc y t.nxt st t.d.m) (hb : actB C v op b) => do_any g B gr rc op sm sr dm dr b C sx dx n y t.nxt st v p (unhide K2) hi hb)
  unfold DoV at DV
  unfold DoE
  have DOE := hide (fun (v : World) (e : Ending) (v' : World) (q : DoE g B y (t.nxt.dos op sm sr dm dr n) (doS op st) (t.nxt.doB op sm sr dm dr n) v e v') => q)
  unfold DoE at DV
  generalize t.nxt.doB op sm sr dm dr n = okd at DV ⊢
  generalize t.nxt.dos op sm sr dm dr n = t2 at DV ⊢
  generalize doS op st = st2 at DV ⊢
  generalize t.nxt = t1 at GO DE DV
  generalize t.d.reg 7 ((nAt t.d.r 7 + 2) % 65536) = dd at GB GO
  generalize nAt t.d.r 7 = v7 at GB IA a0 a1 hq hk2
  clear h hk ht hok hyes hdi hx K2 DOE
  go_enter Tryd.func22, Tryd.ntmps22
  go_wp2_with fail
  refine (unhide GB).mono ?_
  rintro e w2 ⟨rfl, p2, g2⟩
  have H2 := hide (unhide GO _ p2)
  have F2 := hide (Fm.grownR (g := g) g2 (unhide AR))
  clear p2 g2 GB GO
  go_wp2_with fail
  refine (unhide IA _).mono ?_
  rintro e w9 ⟨rfl, hw9⟩
  rw [hw9]
  clear hw9 w9
  have DC := hide (unhide DE _ (unhide H2) ((unhide TB).fm (unhide F2) (unhide G0) (unhide Y0)))
  clear c1
  go_wp2_with fail
  refine (unhide DC).mono ?_
  rintro e w3 ⟨rfl, b3⟩
  have H4 := hide (((unhide H2).later b3).later (below_new w3 (Obj.cells #[.int .i64 (op : Int), .int .i64 (sm : Int), .int .i64 (sr : Int), .int .i64 sx, .int .i64 (dm : Int), .int .i64 (dr : Int), .int .i64 dx, .int .i64 n] 30)))
  have F4 := hide (((unhide F2).trans (Fm.of b3)).trans (Fm.of (below_new w3 (Obj.cells #[.int .i64 (op : Int), .int .i64 (sm : Int), .int .i64 (sr : Int), .int .i64 sx, .int .i64 (dm : Int), .int .i64 (dr : Int), .int .i64 dx, .int .i64 n] 30))))
  have R4 := hide (heap_alloc_last w3 (Obj.cells #[.int .i64 (op : Int), .int .i64 (sm : Int), .int .i64 (sr : Int), .int .i64 sx, .int .i64 (dm : Int), .int .i64 (dr : Int), .int .i64 dx, .int .i64 n] 30))
  clear b3 DC DE
  go_wp2_with (refine wpList_store_new rfl 30 _ _ rfl #[.int .i64 (op : Int), .int .i64 (sm : Int), .int .i64 (sr : Int), .int .i64 sx, .int .i64 (dm : Int), .int .i64 (dr : Int), .int .i64 dx, .int .i64 n] rfl rfl _ (by kernel_rfl) rfl rfl ?_)
  generalize w3.heap.size = ib at R4 ⊢
  generalize w3.alloc (Obj.cells #[.int .i64 (op : Int), .int .i64 (sm : Int), .int .i64 (sr : Int), .int .i64 sx, .int .i64 (dm : Int), .int .i64 (dr : Int), .int .i64 dx, .int .i64 n] 30) = w4 at H4 F4 R4 ⊢
  have H5 := hide ((unhide H4).later (below_drew (w := w4)))
  have F5 := hide ((unhide F4).trans (Fm.of (below_drew (w := w4))))
  have HS := hide (row_lat (unhide R4) (below_drew (w := w4)))
  refine wp_region_last (fun v => v.heap[ib]? = some (.cells #[.int .i64 (op : Int), .int .i64 (sm : Int), .int .i64 (sr : Int), .int .i64 sx, .int .i64 (dm : Int), .int .i64 (dr : Int), .int .i64 dx, .int .i64 n] 30 (0, 0))) 7 (by kernel_rfl) ?_
  generalize w4.drew = wd at H5 F5 HS ⊢
  refine wpAnyL_takeW (i := 0) (v := .bool true) rfl (by kernel_rfl) (by kernel_rfl) (by kernel_rfl) (by kernel_rfl) (fun _ _ _ h => h) (Or.inl ⟨by rfl, fun w hc => ?_⟩) (.inl (unhide HS)) ?_
  · clear hc; go_simp
  go_simp
  refine wpAnyL_takeW (i := 1) (v := .bool true) rfl (by kernel_rfl) (by kernel_rfl) (by kernel_rfl) (by kernel_rfl) (fun _ _ _ h => h) (Or.inl ⟨by rfl, fun w hc => ?_⟩) (.inl (unhide HS)) ?_
  · clear hc; go_simp
  go_simp
  refine wpAnyL_takeW (i := 2) (v := .pointer (some ⟨ib, 0, none⟩)) rfl (by kernel_rfl) (by kernel_rfl) (by kernel_rfl) (by kernel_rfl) (fun _ _ _ h => h) (Or.inl ⟨by rfl, fun w hc => ?_⟩) (.inl (unhide HS)) ?_
  · clear hc; go_simp
  go_simp
  refine wpAnyL_takeW (i := 5) (v := .pointer (some ⟨g, 0, none⟩)) rfl (by kernel_rfl) (by kernel_rfl) (by kernel_rfl) (by kernel_rfl) (fun _ _ _ h => h) (Or.inl ⟨by rfl, fun w hc => ?_⟩) (.inl (unhide HS)) ?_
  · clear hc; go_simp
  go_simp
  refine wpAnyL_takeS (i := 6) (v := .agg #[.int .i64 (op : Int), .int .i64 (sm : Int), .int .i64 (sr : Int), .int .i64 sx, .int .i64 (dm : Int), .int .i64 (dr : Int), .int .i64 dx, .int .i64 n]) rfl (by kernel_rfl) (by kernel_rfl) (by kernel_rfl) (by kernel_rfl) (by kernel_rfl) (fun _ _ _ h => h) (yields_loadQ (by rfl) 30 _ rfl ib rfl 30 #[.int .i64 (op : Int), .int .i64 (sm : Int), .int .i64 (sr : Int), .int .i64 sx, .int .i64 (dm : Int), .int .i64 (dr : Int), .int .i64 dx, .int .i64 n] _ (fun w h => h) Tryd.underlying30 rfl (by kernel_rfl)) (unhide HS) ?_
  go_simp
  have k0 := insR 0 _ (unhide HS) rfl
  refine wpAnyL_one (i := 3) (by kernel_rfl) rfl (fun K2 hK => ?_)
  go_simp
  refine hK.out _ _ (fun _ => unhide HS) ?_
  clear hK K2 k0
  refine wpAnyL_one (i := 4) (by kernel_rfl) rfl (fun K2 hK => ?_)
  go_simp
  refine (unhide AO _).mono ?_
  rintro e w6 ⟨b, rfl, ab, b6⟩
  have H6 := hide ((unhide H5).later b6)
  have F6 := hide ((unhide F5).trans (Fm.of b6))
  have R6 := hide (row_lat (unhide HS) b6)
  have DVC := hide (unhide DV _ _ _ (unhide H6) ab)
  generalize actV op b = av at DVC ⊢
  refine hK.out _ _ (fun _ => unhide R6) ?_
  clear hK K2 ab b6 DV AO HS
  rcases unhide DVC with ⟨fn, rfl, hcf, hc⟩ | ⟨fn, rfl, hcf, hc⟩
  · have HC := hide hc
    clear hc DVC
    refine wpAnyL_one (i := 7) (by kernel_rfl) rfl (fun K2 hK => ?_)
    go_simp
    refine (unhide HC).mono ?_
    rintro e w7 ⟨y7, rfl, a7⟩
    have A7 := hide a7
    refine hK.out _ _ (fun h => absurd h (by decide)) ?_
    clear hK K2 a7
    refine wpAnyL_takeW (i := 8) (v := .bool okd) rfl (by kernel_rfl) (by kernel_rfl) (by kernel_rfl) (by kernel_rfl) (fun _ _ _ h => h) (Or.inl ⟨by rfl, fun w hc => ?_⟩) (.inr (by decide)) ?_
    · clear hc; go_simp
    go_simp
    refine wpAnyL_takeW (i := 9) (v := .bool okd) rfl (by kernel_rfl) (by kernel_rfl) (by kernel_rfl) (by kernel_rfl) (fun _ _ _ h => h) (Or.inl ⟨by rfl, fun w hc => ?_⟩) (.inr (by decide)) ?_
    · clear hc; go_simp
    go_simp
    refine wpAnyL_done (by kernel_rfl) ?_ _
    go_wp2
    go_ret
    have FD := (unhide F6).trans (unhide A7).fm
    first | exact ⟨y7, rfl, ⟨fun h => (unhide A7).yes h, FD⟩⟩ | exact ⟨rfl, y7, ⟨fun h => (unhide A7).yes h, FD⟩⟩
  · have HC := hide hc
    clear hc DVC
    refine wpAnyL_one (i := 7) (by kernel_rfl) rfl (fun K2 hK => ?_)
    go_simp
    refine (unhide HC).mono ?_
    rintro e w7 ⟨y7, rfl, a7⟩
    have A7 := hide a7
    refine hK.out _ _ (fun h => absurd h (by decide)) ?_
    clear hK K2 a7
    refine wpAnyL_takeW (i := 8) (v := .bool okd) rfl (by kernel_rfl) (by kernel_rfl) (by kernel_rfl) (by kernel_rfl) (fun _ _ _ h => h) (Or.inl ⟨by rfl, fun w hc => ?_⟩) (.inr (by decide)) ?_
    · clear hc; go_simp
    go_simp
    refine wpAnyL_takeW (i := 9) (v := .bool okd) rfl (by kernel_rfl) (by kernel_rfl) (by kernel_rfl) (by kernel_rfl) (fun _ _ _ h => h) (Or.inl ⟨by rfl, fun w hc => ?_⟩) (.inr (by decide)) ?_
    · clear hc; go_simp
    go_simp
    refine wpAnyL_done (by kernel_rfl) ?_ _
    go_wp2
    go_ret
    have FD := (unhide F6).trans (unhide A7).fm
    first | exact ⟨y7, rfl, ⟨fun h => (unhide A7).yes h, FD⟩⟩ | exact ⟨rfl, y7, ⟨fun h => (unhide A7).yes h, FD⟩⟩
theorem stepI_any (g B gr rc : Nat) (y : Mv) (t : Ms) (st : Int) (w : World) (h : Pz w g B gr rc y t st t.d.m) (hk : Dk t.d) (ht : Tab w) (hB : 0 < B) : Calls Tryd.prog 22 #[.pointer (some ⟨g, 0, none⟩)] w (DoE g B y t.stp (t.stpS st) t.stpB w) := by
  unfold Ms.stpB Ms.insB
  cases h1 : adB (nAt t.d.r 7)
  · exact step_odd g B gr rc y t st w h hk ht hB h1 _ _
  · cases h2 : decOk t.d.m (nAt t.d.r 7 / 2)
    · exact step_none g B gr rc y t st w h hk ht hB h1 h2 _ _
    · have hok : t.ins.ok = true := by unfold Ms.ins; unfold decOk at h2; simp only [Bool.and_eq_true] at h2; exact h2.2.2
      obtain ⟨op, sm, sr, dm, dr, e1, e2, e3, e4, e5, hi⟩ := is_nat hok
      have hx : t.ins = ⟨op, ⟨sm, sr, t.ins.s.x⟩, ⟨dm, dr, t.ins.d.x⟩, t.ins.n⟩ := by rw [← e1, ← e2, ← e3, ← e4, ← e5]
      have q := step_do g B gr rc y t st w h hk ht hB h1 h2 op sm sr dm dr _ _ _ hx hi
      unfold Ms.stp Ms.stpS
      rw [show t.ins.op.toNat = op by omega, show t.ins.s.m.toNat = sm by omega, show t.ins.s.r.toNat = sr by omega, show t.ins.d.m.toNat = dm by omega, show t.ins.d.r.toNat = dr by omega]
      exact q
end Go.Proofs.YtjpbjbnialehbaaDoor

namespace Go.Proofs.YtjpbjbnialehbaaDoor
open Go.ChangeShapes Go.WideShapes Go.ChangeAt Go.RowKit
set_option linter.unusedVariables false
set_option maxRecDepth 8000
set_option linter.unusedSimpArgs false
theorem dk_of {d : Md} {st : Int} (h : d.ok st = true) : Dk d ∧ 0 ≤ st ∧ st ≤ 2 := by
  unfold Md.ok at h
  simp only [Bool.and_eq_true, beq_iff_eq, decide_eq_true_eq] at h
  obtain ⟨h1, h2, h3, h4, h5, h6, h7, h8, h9⟩ := h
  have := inB_b h9
  exact ⟨⟨by omega, Wd.of h2, by omega, Wd.of h4, by omega, Wd.of h6, by omega, Wd.of h8⟩, this.1, this.2⟩
theorem laid_fullQ {ns : List Int} (h : ns.length = 256) : laidM ns z256 = ns := by
  unfold laidM
  rw [List.take_of_length_le (by omega), List.drop_eq_nil_of_le (by rw [z256_len]; omega), List.append_nil]
/-- What a machine holds, and how it stands, behind a step. -/
def Ms.stA (t : Ms) (st : Int) : Ms := if (t.d.ok st && (st == 0 && t.stpB)) = true then t.stp else t
def Ms.stN (t : Ms) (st : Int) : Int := if (t.d.ok st && st == 0) = true then (if t.stpB = true then t.stpS 0 else 2) else st
def Mv.ms (x : Mv) (d : Md) : Ms := ⟨d, x.n, x.z, x.v, x.c⟩
/-- The boxes of Step: what came in, the answer's place. -/
structure Bst (w wr : World) (x : Mv) : Prop where
  bx : wr.heap[w.heap.size]? = some (.cells x.cs 32 (0, 0))
  re : wr.heap[w.heap.size + 1]? = some (.cells zMv.cs 32 (0, 0))
  bel : Below w.heap.size w wr
  sz : w.heap.size + 2 ≤ wr.heap.size
section
variable {w wr w' : World} {x : Mv}
theorem bst_new (w : World) (x : Mv) : Bst w ((w.alloc (.cells x.cs 32)).alloc (.cells zMv.cs 32)) x := by
  have z1 : (w.alloc (.cells x.cs 32)).heap.size = w.heap.size + 1 := by simp
  have a1 := row_lat (heap_alloc_last w (.cells x.cs 32)) (below_new (w.alloc (.cells x.cs 32)) (.cells zMv.cs 32))
  have a2 := heap_alloc_last (w.alloc (.cells x.cs 32)) (.cells zMv.cs 32)
  rw [z1] at a2
  exact ⟨a1, a2, (below_new w _).trans ((below_new _ _).mono (by simp)), by simp⟩
theorem Bst.later (h : Bst w wr x) (hb : Below wr.heap.size wr w') : Bst w w' x := ⟨row_lat h.bx hb, row_lat h.re hb, h.bel.trans (hb.mono (by have := h.sz; omega)), Nat.le_trans h.sz hb.size⟩
theorem Bst.bel2 {B : Nat} (h : Bst w wr x) (hb : Below B wr w') (hB : w.heap.size + 2 ≤ B) : Bst w w' x :=
  ⟨(hb.block _ (by omega)).trans h.bx, (hb.block _ (by omega)).trans h.re, h.bel.trans (hb.mono (by omega)), Nat.le_trans h.sz hb.size⟩
theorem Bst.done (h : Bst w wr x) (cs : Array Value) : (wr.setRow (w.heap.size + 1) cs).heap[w.heap.size + 1]? = some (.cells cs 32 (0, 0)) ∧ Below w.heap.size w (wr.setRow (w.heap.size + 1) cs) :=
  ⟨setRow_heap wr _ _ _ 32 _ h.re, below_setRow h.bel (by omega) _⟩
end
theorem OwnE.row {w : World} {B g : Nat} {x : Mv} {d : Md} (h : OwnE w B x d) (hb : g < B) (cs : Array Value) : OwnE (w.setRow g cs) B x d := h.keepH fun j h1 _ => setRow_other w g j cs (by have := (h.lo h1).1; omega)
/-- What faulted answers. -/
def FtIs (x : Mv) (d : Md) (w : World) : Prop := Calls Tryd.prog 23 #[.agg x.cs] w fun e w' => ∃ y : Mv, e = .returned (.agg y.cs) ∧ y.fl = (x.ms d).fl 2 ∧ OwnM w' (w.heap.size + 2) y d ∧ Below w.heap.size w w'
set_option maxHeartbeats 2000000 in
theorem faulted_any (x : Mv) (d : Md) (w : World) (hs : x.small) (hz : x.nz) (hr : RdM w x d) : FtIs x d w := by
  have B1 := hide (bst_new w x)
  have CM := hide (copyM_any x d _ hs hz (hr.later (unhide B1).bel))
  unfold FtIs
  clear hs hz hr
  go_enter Tryd.func23, Tryd.ntmps23
  go_wp2_with (refine wpList_load_row rfl 32 _ rfl w.heap.size rfl 32 x.cs (0, 0) _ (unhide B1).bx Tryd.underlying32 rfl (by kernel_rfl) ?_)
  refine (unhide CM).mono ?_
  rintro e w2 ⟨y, rfl, fy, oy, hb⟩
  have R2 := heap_alloc_last w2 (.cells y.cs 32)
  have FY := hide (show ({ y with st := 2 } : Mv).fl = (x.ms d).fl 2 by unfold Mv.fl Ms.fl Mv.ms at *; simp at *; exact ⟨fy.1, fy.2.1, fy.2.2.1, fy.2.2.2.1⟩)
  have SB := hide (show w.heap.size + 2 ≤ ((w.alloc (.cells x.cs 32)).alloc (.cells zMv.cs 32)).heap.size + 2 by simp)
  have EC := hide (show y.cs.setIfInBounds 8 (.int .i64 2) = Mv.cs { y with st := 2 } from rfl)
  have c8 := row_st R2
  have f8 := row_fz R2 8
  have B3 := hide (((unhide B1).later hb).later (below_new w2 (.cells (y.cs.setIfInBounds 8 (.int .i64 2)) 32)))
  have R3 := hide (heap_alloc_last w2 (.cells (y.cs.setIfInBounds 8 (.int .i64 2)) 32))
  have O3 := hide (oy.later (below_new w2 (.cells (y.cs.setIfInBounds 8 (.int .i64 2)) 32)))
  clear fy oy hb CM R2 B1
  go_wp2_with (first | (refine wpList_store_new rfl 32 _ _ rfl y.cs rfl rfl _ (by kernel_rfl) rfl (Mv.cs_one _) ?_) | (refine wpList_load_row rfl 32 _ rfl w2.heap.size rfl 32 (y.cs.setIfInBounds 8 (.int .i64 2)) (0, 0) _ (unhide R3) Tryd.underlying32 rfl (by kernel_rfl) ?_) | (refine wpList_store_row rfl 32 _ _ rfl (w.heap.size + 1) (y.cs.setIfInBounds 8 (.int .i64 2)) rfl rfl 32 zMv.cs (unhide B3).re (by kernel_rfl) rfl (Mv.cs_one { y with st := 2 }) ?_))
  obtain ⟨r1, r2⟩ := (unhide B3).done (y.cs.setIfInBounds 8 (.int .i64 2))
  refine bodyPost_ret (results_cell_row (P := Tryd.prog) rfl _ _ (w.heap.size + 1) 32 (y.cs.setIfInBounds 8 (.int .i64 2)) (0, 0) _ rfl r1 Tryd.underlying32 rfl (by kernel_rfl)) rfl ?_
  have q := (unhide O3).row (g := w.heap.size + 1) (by simp) (y.cs.setIfInBounds 8 (.int .i64 2))
  obtain ⟨q1, q2, q3, q4, a1, a2, a3, a4, a5, a6⟩ := q.base (unhide SB)
  exact ⟨{ y with st := 2 }, rfl, unhide FY, ⟨q1, q2, q3, q4, a1, a2, a3, a4, a5, a6⟩, r2⟩
/-- What Step answers. -/
def StIs (x : Mv) (d d2 : Md) (f2 : Bool × Bool × Bool × Bool × Int) (w : World) : Prop := Calls Tryd.prog 8 #[.agg x.cs] w fun e w' => ∃ y : Mv, e = .returned (.agg y.cs) ∧ y.fl = f2 ∧ OwnE w' (w.heap.size + 2) y d2 ∧ Below w.heap.size w w' 
set_option maxHeartbeats 4000000 in
theorem stI_no (x : Mv) (d : Md) (w : World) (hs : x.small) (hz : x.nz) (hr : RdM w x d) (hno : (d.ok x.st && x.st == 0) = false) : StIs x d d x.fl w := by
  have B1 := hide (bst_new w x)
  have X1 := hide (hr.later (unhide B1).bel)
  have MK := hide (okI_any x d _ hs (unhide X1))
  have CM := hide (fun v (h : RdM v x d) => copyM_any x d v hs hz h)
  unfold StIs
  cases hok : d.ok x.st
  · rw [hok] at MK
    clear hs hz hr hok hno
    go_enter Tryd.func8, Tryd.ntmps8
    go_wp2_with (refine wpList_load_row rfl 32 _ rfl w.heap.size rfl 32 x.cs (0, 0) _ (unhide B1).bx Tryd.underlying32 rfl (by kernel_rfl) ?_)
    refine (unhide MK).mono ?_
    rintro e w2 ⟨rfl, hb⟩
    have B2 := hide ((unhide B1).later hb)
    have CC := hide (unhide CM _ ((unhide X1).later hb))
    clear hb MK CM B1 X1
    go_wp2_with (refine wpList_load_row rfl 32 _ rfl w.heap.size rfl 32 x.cs (0, 0) _ (unhide B2).bx Tryd.underlying32 rfl (by kernel_rfl) ?_)
    refine (unhide CC).mono ?_
    rintro e w3 ⟨y, rfl, fy, oy, hb⟩
    have B9 := hide ((unhide B2).later hb)
    have FY := hide fy
    have O3 := hide (oy.toE.base (C := w.heap.size + 2) (by have := (unhide B2).sz; omega))
    clear fy oy hb CC B2
    go_wp2_with (refine wpList_store_row rfl 32 _ _ rfl (w.heap.size + 1) y.cs rfl rfl 32 zMv.cs (unhide B9).re (by kernel_rfl) rfl (Mv.cs_one _) ?_)
    obtain ⟨r1, r2⟩ := (unhide B9).done y.cs
    refine bodyPost_ret (results_cell_row (P := Tryd.prog) rfl _ _ (w.heap.size + 1) 32 y.cs (0, 0) _ rfl r1 Tryd.underlying32 rfl (by kernel_rfl)) rfl ?_
    exact ⟨y, rfl, unhide FY, (unhide O3).row (by omega) _, r2⟩
  · rw [hok] at MK hno
    have hst : x.st ≠ 0 := fun e => by rw [e] at hno; simp at hno
    have c8 := row_st (unhide B1).bx
    have C8 := hide (fun v (b : Bst w v x) => row_st b.bx)
    generalize x.st = xs at c8 C8 hst
    clear hs hz hr hok hno c8
    go_enter Tryd.func8, Tryd.ntmps8
    go_wp2_with (refine wpList_load_row rfl 32 _ rfl w.heap.size rfl 32 x.cs (0, 0) _ (unhide B1).bx Tryd.underlying32 rfl (by kernel_rfl) ?_)
    refine (unhide MK).mono ?_
    rintro e w2 ⟨rfl, hb⟩
    have B2 := hide ((unhide B1).later hb)
    have CC := hide (unhide CM _ ((unhide X1).later hb))
    have c8 := unhide C8 _ (unhide B2)
    clear hb MK CM B1 X1 C8
    go_wp2_with (refine wpList_load_row rfl 32 _ rfl w.heap.size rfl 32 x.cs (0, 0) _ (unhide B2).bx Tryd.underlying32 rfl (by kernel_rfl) ?_)
    refine (unhide CC).mono ?_
    rintro e w3 ⟨y, rfl, fy, oy, hb⟩
    have B9 := hide ((unhide B2).later hb)
    have FY := hide fy
    have O3 := hide (oy.toE.base (C := w.heap.size + 2) (by have := (unhide B2).sz; omega))
    clear fy oy hb CC B2 c8
    go_wp2_with (refine wpList_store_row rfl 32 _ _ rfl (w.heap.size + 1) y.cs rfl rfl 32 zMv.cs (unhide B9).re (by kernel_rfl) rfl (Mv.cs_one _) ?_)
    obtain ⟨r1, r2⟩ := (unhide B9).done y.cs
    refine bodyPost_ret (results_cell_row (P := Tryd.prog) rfl _ _ (w.heap.size + 1) 32 y.cs (0, 0) _ rfl r1 Tryd.underlying32 rfl (by kernel_rfl)) rfl ?_
    exact ⟨y, rfl, unhide FY, (unhide O3).row (by omega) _, r2⟩
set_option maxHeartbeats 8000000 in
theorem stI_do (x : Mv) (d : Md) (w : World) (hs : x.small) (hz : x.nz) (hr : RdM w x d) (ht : Tab w) (hok : d.ok x.st = true) (h0 : x.st = 0) : StIs x d (if (x.ms d).stpB = true then (x.ms d).stp.d else d) (if (x.ms d).stpB = true then (x.ms d).stp.fl ((x.ms d).stpS 0) else (x.ms d).fl 2) w := by
  have B1 := hide (bst_new w x)
  have X1 := hide (hr.later (unhide B1).bel)
  have MK := hide (okI_any x d _ hs (unhide X1))
  rw [hok] at MK
  have DK := (dk_of hok).1
  have DK2 := hide DK
  have MO := hide (fun v (h : RdM v x d) => machineOf_any x d v hs hz h)
  rw [laid_fullQ DK.ml] at MO
  have FT := hide (fun v (h : RdM v x d) => faulted_any x d v hs hz h)
  unfold FtIs at FT
  have HR := hide hr
  have TB := hide ht
  have ST := hide (fun g B gr rc (y : Mv) v (p : Pz v g B gr rc y (x.ms d) 0 d.m) (tb : Tab v) (hB : 0 < B) => stepI_any g B gr rc y (x.ms d) 0 v p DK tb hB)
  unfold DoE at ST
  have C8 := hide (fun v (b : Bst w v x) => row_st b.bx)
  have XF := hide (show x.fl = (x.ms d).fl 0 by rw [← h0]; rfl)
  rw [h0] at C8
  unfold StIs
  generalize (x.ms d).stpB = ok at ST ⊢
  generalize (x.ms d).stp = t2 at ST ⊢
  generalize (x.ms d).stpS 0 = s2 at ST ⊢
  generalize hm : x.ms d = t at ST FT XF ⊢
  have TD := hide (show t.d = d by rw [← hm]; rfl)
  clear hs hz hr hok ht DK h0 hm
  go_enter Tryd.func8, Tryd.ntmps8
  go_wp2_with (refine wpList_load_row rfl 32 _ rfl w.heap.size rfl 32 x.cs (0, 0) _ (unhide B1).bx Tryd.underlying32 rfl (by kernel_rfl) ?_)
  refine (unhide MK).mono ?_
  rintro e w2 ⟨rfl, hb⟩
  have B2 := hide ((unhide B1).later hb)
  have X2 := hide ((unhide X1).later hb)
  have MO2 := hide (unhide MO _ (unhide X2))
  have c8 := unhide C8 _ (unhide B2)
  clear hb MK B1 X1 C8 MO
  go_wp2_with (refine wpList_load_row rfl 32 _ rfl w.heap.size rfl 32 x.cs (0, 0) _ (unhide B2).bx Tryd.underlying32 rfl (by kernel_rfl) ?_)
  refine (unhide MO2).mono ?_
  rintro e w3 ⟨y, rfl, fy, oy, hb⟩
  have oy := oy.base (C := w.heap.size + 2) (by have := (unhide B2).sz; omega)
  obtain ⟨gr, rc, er⟩ := sl_formP oy.r (by rw [(unhide DK2).rl]; omega)
  have ny : ∀ b, y.at b → b ≠ w3.heap.size := fun b k => by have := (oy.lo k).2; omega
  have S3 := hide (show w.heap.size + 2 ≤ w3.heap.size by have := (unhide B2).sz; have := hb.size; omega)
  have B3 := hide (((unhide B2).later hb).later (below_new w3 (.cells (bigA d.m y) 45)))
  have P3 := hide (show Pz (w3.alloc (.cells (bigA d.m y) 45)) w3.heap.size (w.heap.size + 2) gr rc y t 0 d.m from
    ⟨by rw [unhide TD]; exact heap_alloc_last w3 _, by rw [unhide TD]; exact (unhide DK2).ml, by rw [unhide TD]; exact oy.later (below_new w3 _), by rw [er, (unhide DK2).rl], by rw [unhide TD]; exact (unhide DK2).rl, fy.trans (unhide XF), unhide S3, ny⟩)
  have LY := hide (fun b (k : y.at b) => (oy.lo k).1)
  have ST2 := hide (unhide ST _ _ _ _ _ _ (unhide P3) ((unhide TB).later (unhide B3).bel) (by omega))
  have ML := hide (unhide DK2).ml
  clear fy oy hb MO2 er ny ST B2 X2 c8 XF
  go_wp2_with (first | (refine wpList_alloc60 rfl rfl ?_) | (refine wpList_store60 rfl _ _ rfl d.m y (unhide ML) rfl rfl ?_))
  refine (unhide ST2).mono ?_
  rintro e w4 ⟨y2, rfl, a4⟩
  have BB := hide (a4.fm.bel (B := w.heap.size + 2) (by have := unhide S3; simp; omega) (by have := unhide S3; omega) (fun b k => unhide LY b k))
  have B4 := hide ((unhide B3).bel2 (unhide BB) (Nat.le_refl _))
  cases ok
  · have FT2 := hide (unhide FT _ ((unhide HR).later (unhide B4).bel))
    clear a4 FT ST2 P3 B3
    go_wp2_with (refine wpList_load_row rfl 32 _ rfl w.heap.size rfl 32 x.cs (0, 0) _ (unhide B4).bx Tryd.underlying32 rfl (by kernel_rfl) ?_)
    refine (unhide FT2).mono ?_
    rintro e w5 ⟨y5, rfl, fy, oy, hb⟩
    have B9 := hide ((unhide B4).later hb)
    have FY := hide fy
    have O5 := hide (oy.toE.base (C := w.heap.size + 2) (by have := (unhide B4).sz; omega))
    clear fy oy hb FT2 B4
    go_wp2_with (refine wpList_store_row rfl 32 _ _ rfl (w.heap.size + 1) y5.cs rfl rfl 32 zMv.cs (unhide B9).re (by kernel_rfl) rfl (Mv.cs_one _) ?_)
    obtain ⟨r1, r2⟩ := (unhide B9).done y5.cs
    refine bodyPost_ret (results_cell_row (P := Tryd.prog) rfl _ _ (w.heap.size + 1) 32 y5.cs (0, 0) _ rfl r1 Tryd.underlying32 rfl (by kernel_rfl)) rfl ?_
    exact ⟨y5, rfl, unhide FY, (unhide O5).row (by omega) _, r2⟩
  · have pe := a4.yes (by trivial)
    obtain ⟨m0, hm0, ow⟩ := pe.own
    have AN := hide (answerE_any w3.heap.size (w.heap.size + 2) t2.d.m m0 y2 w4 pe.len pe.row ow.m (fun e => pe.ne _ (.inl e.symm) rfl))
    rw [hm0, List.take_of_length_le (Nat.le_of_eq pe.len), List.drop_eq_nil_of_le (Nat.le_of_eq hm0), List.append_nil] at AN
    have OW := hide ow
    have FY := hide pe.fl
    clear a4 FT ST2 P3 B3 pe ow
    go_wp2_with fail
    refine (unhide AN).mono ?_
    rintro e w5 ⟨rfl, om, g5⟩
    have O5 := hide (show OwnE w5 (w.heap.size + 2) y2 t2.d from
      { m := om
        r := (unhide OW).r.keep fun q hv hq => g5.block q hq (fun e => (unhide OW).mr q e.symm hv)
        i := (unhide OW).i.keep fun q hv hq => g5.block q hq (fun e => (unhide OW).mi q e.symm hv)
        o := (unhide OW).o.keep fun q hv hq => g5.block q hq (fun e => (unhide OW).mo q e.symm hv)
        mr := (unhide OW).mr, mi := (unhide OW).mi, mo := (unhide OW).mo, ri := (unhide OW).ri, ro := (unhide OW).ro, io := (unhide OW).io })
    have B9 := hide ((unhide B4).bel2 (B := w.heap.size + 2) ⟨g5.os, g5.tape, g5.output, g5.size, fun k hk => g5.block k (by have := (unhide B4).sz; omega) (fun e => by have := ((unhide OW).m.lt e.symm).1; omega)⟩ (Nat.le_refl _))
    clear om g5 AN OW B4
    go_wp2_with (refine wpList_store_row rfl 32 _ _ rfl (w.heap.size + 1) y2.cs rfl rfl 32 zMv.cs (unhide B9).re (by kernel_rfl) rfl (Mv.cs_one _) ?_)
    obtain ⟨r1, r2⟩ := (unhide B9).done y2.cs
    refine bodyPost_ret (results_cell_row (P := Tryd.prog) rfl _ _ (w.heap.size + 1) 32 y2.cs (0, 0) _ rfl r1 Tryd.underlying32 rfl (by kernel_rfl)) rfl ?_
    exact ⟨y2, rfl, unhide FY, (unhide O5).row (by omega) _, r2⟩
/-- Step by the program, at every machine. -/
theorem stepI_all (x : Mv) (d : Md) (w : World) (hs : x.small) (hz : x.nz) (hr : RdM w x d) (ht : Tab w) : StIs x d ((x.ms d).stA x.st).d (((x.ms d).stA x.st).fl ((x.ms d).stN x.st)) w := by
  unfold Ms.stA Ms.stN
  cases hno : (d.ok x.st && x.st == 0)
  · have e1 : ((x.ms d).d.ok x.st && x.st == 0) = false := hno
    have e2 : ((x.ms d).d.ok x.st && (x.st == 0 && (x.ms d).stpB)) = false := by rw [← Bool.and_assoc, e1, Bool.false_and]
    rw [e1, e2, if_neg (by simp), if_neg (by simp)]
    exact stI_no x d w hs hz hr hno
  · have e1 : ((x.ms d).d.ok x.st && x.st == 0) = true := hno
    have e2 : ((x.ms d).d.ok x.st && (x.st == 0 && (x.ms d).stpB)) = (x.ms d).stpB := by rw [← Bool.and_assoc, e1, Bool.true_and]
    rw [e1, e2, if_pos rfl]
    simp only [Bool.and_eq_true, beq_iff_eq] at hno
    have q := stI_do x d w hs hz hr ht hno.1 hno.2
    cases hb : (x.ms d).stpB
    · rw [hb] at q
      exact q
    · rw [hb] at q
      exact q
end Go.Proofs.YtjpbjbnialehbaaDoor
