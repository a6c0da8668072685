/- Contracts over this seat's translation, laid together; conditions stand as hypotheses of each. -/
import Derived.Test.YtjpbjbnialehbaaGreatDoorBsA
import Derived.Test.YtjpbjbnialehbaaGreatDoorBsB
import Derived.Test.YtjpbjbnialehbaaGreatDoorBsG
import Derived.Test.YtjpbjbnialehbaaGreatDoorBsH
import Derived.Test.YtjpbjbnialehbaaGreatDoorBsI
import Derived.Test.YtjpbjbnialehbaaGreatDoorBsK
import Derived.Test.YtjpbjbnialehbaaGreatDoorRows
import Derived.Lib.LaidTab
import Derived.MakeChecks
import Derived.Lib.SmallJoins

namespace Go.Proofs.YtjpbjbnialehbaaGreatDoor
open Go.ChangeShapes Go.WideShapes Go.ChangeAt Go.RowKit
set_option linter.unusedVariables false
set_option maxRecDepth 8000
set_option linter.unusedSimpArgs false
theorem nAt_setQ {ns : List Int} {k i : Nat} {v : Int} (hk : k < ns.length) : nAt (ns.set k v) i = if i = k then v else nAt ns i := by
  unfold nAt
  rw [List.getD_eq_getElem?_getD, List.getD_eq_getElem?_getD, List.getElem?_set]
  by_cases e : k = i
  · subst e; simp [hk]
  · rw [if_neg e, if_neg (fun c => e c.symm)]
theorem OwnO.setAt {w : World} {B g off n cap : Nat} {ns : List Int} (h : OwnO w B ⟨some ⟨g, off, none⟩, n, cap⟩ ns) (k : Nat) (v : Int) (hk : k < ns.length) :
    OwnO (w.setCell ⟨g, off + k, none⟩ (.int .i64 v)) B ⟨some ⟨g, off, none⟩, n, cap⟩ (ns.set k v) ∧ w.grownBy (w.setCell ⟨g, off + k, none⟩ (.int .i64 v)) (some g) ∧ w.cell? ⟨g, off + k, none⟩ = some (.int .i64 (nAt ns k)) ∧ w.frozen? ⟨g, off + k, none⟩ = false := by
  rcases h with ⟨e, _⟩ | ⟨g', off', cap', e, hB, h1, h2, ⟨cur, hc, h3⟩, h4⟩
  · cases e
  · simp only [Sl.mk.injEq, Option.some.injEq, Addr.mk.injEq, and_true] at e
    obtain ⟨⟨rfl, rfl⟩, rfl, rfl⟩ := e
    have hrow : (w.setCell ⟨g, off + k, none⟩ (.int .i64 v)).heap[g]? = some (.cells (cur.setIfInBounds (off + k) (.int .i64 v)) 3 (0, 0)) := by
      rw [setCell_eq_setRow w g (off + k) cur 3 (0, 0) _ hc]
      exact setRow_heap w g _ _ 3 _ hc
    refine ⟨.inr ⟨g, off, cap, by simp, hB, by simpa using h1, h2, ⟨_, hrow, by simpa using h3⟩, fun i hi => ?_⟩, grownBy_set (b := g) (o := off + k) _, h4 k hk, by simp [World.frozen?, hc]⟩
    have hi' : i < ns.length := by simpa using hi
    rw [cell_of_row _ g (off + i) _ 3 _ hrow, nAt_setQ hk]
    by_cases e : i = k
    · subst e
      rw [if_pos rfl, Array.getElem?_setIfInBounds_self_of_lt (by omega)]
    · rw [if_neg e, Array.getElem?_setIfInBounds_ne (by omega), ← cell_of_row w g (off + i) cur 3 _ hc]
      exact h4 i hi'
theorem mark_list (k0 k : Nat) (xs : List Int) (hk : k < xs.length) : (markN k0 k ++ xs.drop k).set k ((k0 : Int) + k) = markN k0 (k + 1) ++ xs.drop (k + 1) := by
  have e : xs.drop k = xs[k] :: xs.drop (k + 1) := List.drop_eq_getElem_cons hk
  rw [e, List.set_append_right _ _ (by rw [markN_length]; omega), markN_length, Nat.sub_self, List.set_cons_zero]
  unfold markN
  rw [List.range_succ, List.map_append, List.append_assoc]
  rfl
set_option maxHeartbeats 800000 in
theorem markO_any (b off len cap k0 : Nat) (xs : List Int) (B : Nat) (w : World) (hl : xs.length = len) (hm : len ≤ 1099511627776) (hk0 : k0 ≤ 8388608) (hown : OwnO w B ⟨some ⟨b, off, none⟩, len, cap⟩ xs) :
    Calls Tryz.prog 36 #[.slice (some ⟨b, off, none⟩) len cap, .int .i64 k0] w fun e w' => e = .returned (.int .i64 ((k0 : Int) + len)) ∧ OwnO w' B ⟨some ⟨b, off, none⟩, len, cap⟩ (markN k0 len) ∧ w.grownBy w' (some b) := by
  go_enter Tryz.func36, Tryz.ntmps36
  go_wp2
  go_loopw [1, 5] (fun kk i wr => ∃ k : Nat, k ≤ len ∧ i = .int .i64 k ∧ kk = .int .i64 ((k0 : Int) + k) ∧ OwnO wr B ⟨some ⟨b, off, none⟩, len, cap⟩ (markN k0 k ++ xs.drop k) ∧ w.grownBy wr (some b)) (fun _ i _ => len - (intOf i).toNat)
  case atStart => exact ⟨0, Nat.zero_le _, rfl, by simp, by simpa [markN, hl] using hown, World.grownBy.refl _ _⟩
  case round =>
    clear hown
    obtain ⟨k, hk, rfl, rfl, hown, hg⟩ := hrel
    by_cases hlt : k < len
    · obtain ⟨o2, g2, hcx, hfz⟩ := hown.setAt k ((k0 : Int) + k) (by rw [List.length_append, markN_length, List.length_drop]; omega)
      rw [mark_list k0 k xs (by omega)] at o2
      have st1 := hide o2
      have st2 := hide (grownBy_trans hg g2)
      generalize nAt (markN k0 k ++ xs.drop k) k = u at hcx
      clear hown o2 g2 hg
      go_wp2
      go_roundw
      case rel => exact ⟨k + 1, by omega, by go_num, by go_num, unhide st1, unhide st2⟩
      case measure => simp [intOf]; omega
    · go_wp2
      go_ret
      obtain rfl : k = len := by omega
      refine ⟨rfl, ?_, hg⟩
      rw [List.drop_eq_nil_of_le (by omega), List.append_nil] at hown
      exact hown
theorem markO_own (s : Sl) (ns : List Int) (B k0 : Nat) (w : World) (hm : ns.length ≤ 1048576) (hk : k0 ≤ 8388608) (h : OwnO w B s ns) :
    Calls Tryz.prog 36 #[.slice s.a s.n s.c, .int .i64 (k0 : Int)] w fun e w' => e = .returned (.int .i64 ((k0 : Int) + ns.length)) ∧ OwnO w' B s (markN k0 ns.length) ∧ w.grownBy w' s.v.ownBlock := by
  rcases id h with ⟨rfl, rfl⟩ | ⟨g, off, cap, rfl, _⟩
  · exact (markL_none k0 w (by omega)).mono fun e w' ⟨he, hw⟩ => by subst hw; exact ⟨by simpa using he, .inl ⟨rfl, rfl⟩, World.grownBy.refl _ _⟩
  · exact (markO_any g off ns.length cap k0 ns B w rfl (by omega) (by omega) h).mono fun e w' ⟨he, ho, hg⟩ => ⟨he, ho, hg⟩
theorem OwnE.tch {w w' : World} {B : Nat} {x y : Mv} {d : Md} (h : OwnE w B y d) (t : Tch w w' x) (hap : ∀ b, y.at b → x.at b → False) : OwnE w' B y d := h.keepH fun g hg hl => t.block g hl (fun e => hap g hg e)
theorem OwnO.nz {w : World} {B : Nat} {s : Sl} {ns : List Int} (h : OwnO w B s ns) : s.nz := by
  rcases h with ⟨rfl, _⟩ | ⟨g, off, cap, rfl, _⟩
  · exact fun _ => rfl
  · exact fun c => by cases c
theorem OwnE.nz {w : World} {B : Nat} {x : Mv} {d : Md} (h : OwnE w B x d) : x.nz := ⟨h.m.nz, h.r.nz, h.i.nz, h.o.nz⟩
set_option maxHeartbeats 2000000 in
theorem markE_any (x : Mv) (d : Md) (B : Nat) (w : World) (hs : d.small) (ho : OwnE w B x d) : Calls Tryz.prog 15 #[.agg x.cs, .int .i64 1] w fun e w' => e = .returned (.int .i64 d.tot) ∧ OwnE w' B x d.marks ∧ Tch w w' x := by
  obtain ⟨s0, s1, s2, s3⟩ := hs
  have b0 := below_new w (.cells x.cs 26)
  have R0 := hide (heap_alloc_last w (.cells x.cs 26))
  have NB : Hid (¬ x.at w.heap.size) := hide (fun e => by have := (ho.lo e).2; omega)
  have T0 := hide (Tch.below (x := x) b0)
  have O := hide (ho.later b0)
  have q0 : x.cs[0]? = some (.slice x.m.a x.m.n x.m.c) := rfl
  have M := hide (markL_own x.m d.m B 1 (w.alloc (.cells x.cs 26)) s0 (by omega) (unhide O).m)
  clear ho b0
  go_enter Tryz.func15, Tryz.ntmps15
  go_wp2_with fail
  refine (unhide M).mono ?_
  rintro e w1 ⟨rfl, om, gm⟩
  have R1 := hide ((gm.block w.heap.size (row_lt (unhide R0)) (fun e => unhide NB (.inl e.symm))).trans (unhide R0))
  have T1 := hide ((unhide T0).grown gm (fun b e => .inl e))
  have OM := hide om
  have OR := hide ((unhide O).r.keep fun g hv hl => gm.block g hl (fun e => (unhide O).mr g e.symm hv))
  have OI := hide ((unhide O).i.keep fun g hv hl => gm.block g hl (fun e => (unhide O).mi g e.symm hv))
  have OO := hide ((unhide O).o.keep fun g hv hl => gm.block g hl (fun e => (unhide O).mo g e.symm hv))
  clear om gm M q0 R0 T0
  have q1 := row_r (unhide R1)
  have M := hide (markL_own x.r d.r B (1 + d.m.length) w1 s1 (by omega) (unhide OR))
  go_wp2_with fail
  refine (unhide M).mono ?_
  rintro e w2 ⟨rfl, om, gm⟩
  have R2 := hide ((gm.block w.heap.size (row_lt (unhide R1)) (fun e => unhide NB (.inr (.inl e.symm)))).trans (unhide R1))
  have T2 := hide ((unhide T1).grown gm (fun b e => .inr (.inl e)))
  have PM := hide ((unhide OM).keep fun g hv hl => gm.block g hl (fun e => (unhide O).mr g hv e.symm))
  have PR := hide om
  have PI := hide ((unhide OI).keep fun g hv hl => gm.block g hl (fun e => (unhide O).ri g e.symm hv))
  have PO := hide ((unhide OO).keep fun g hv hl => gm.block g hl (fun e => (unhide O).ro g e.symm hv))
  clear om gm M q1 R1 T1 OM OR OI OO
  have q6 := row_i (unhide R2)
  have M := hide (markO_own x.i d.i B (1 + d.m.length + d.r.length) w2 s2 (by omega) (unhide PI))
  go_wp2_with fail
  refine (unhide M).mono ?_
  rintro e w3 ⟨rfl, om, gm⟩
  have R3 := hide ((gm.block w.heap.size (row_lt (unhide R2)) (fun e => unhide NB (.inr (.inr (.inl e.symm))))).trans (unhide R2))
  have T3 := hide ((unhide T2).grown gm (fun b e => .inr (.inr (.inl e))))
  have OM := hide ((unhide PM).keep fun g hv hl => gm.block g hl (fun e => (unhide O).mi g hv e.symm))
  have OR := hide ((unhide PR).keep fun g hv hl => gm.block g hl (fun e => (unhide O).ri g hv e.symm))
  have OI := hide om
  have OO := hide ((unhide PO).keep fun g hv hl => gm.block g hl (fun e => (unhide O).io g e.symm hv))
  clear om gm M q6 R2 T2 PM PR PI PO
  have q7 := row_o (unhide R3)
  have M := hide (markL_own x.o d.o B (1 + d.m.length + d.r.length + d.i.length) w3 s3 (by omega) (unhide OO))
  go_wp2_with fail
  refine (unhide M).mono ?_
  rintro e w4 ⟨rfl, om, gm⟩
  have T4 := hide ((unhide T3).grown gm (fun b e => .inr (.inr (.inr e))))
  have PM := hide ((unhide OM).keep fun g hv hl => gm.block g hl (fun e => (unhide O).mo g hv e.symm))
  have PR := hide ((unhide OR).keep fun g hv hl => gm.block g hl (fun e => (unhide O).ro g hv e.symm))
  have PI := hide ((unhide OI).keep fun g hv hl => gm.block g hl (fun e => (unhide O).io g hv e.symm))
  have PO := hide om
  clear om gm M q7 R3 T3 OM OR OI OO
  go_wp2
  go_ret
  exact ⟨by unfold Md.tot; rfl, { (unhide O) with m := unhide PM, r := unhide PR, i := unhide PI, o := unhide PO }, unhide T4⟩
end Go.Proofs.YtjpbjbnialehbaaGreatDoor

namespace Go.Proofs.YtjpbjbnialehbaaGreatDoor
open Go.ChangeShapes Go.WideShapes Go.ChangeAt Go.RowKit
set_option linter.unusedVariables false
set_option maxRecDepth 8000
set_option linter.unusedSimpArgs false
def PsIs (B g mo re : Nat) (X : Int) (y : Mv) (t : Ms) (st : Int) (w : World) : Prop :=
  Calls Tryz.prog 89 #[.pointer (some ⟨g, 0, none⟩), .agg #[.int .i64 (mo : Int), .int .i64 (re : Int), .int .i64 X]] w fun e w' => e = .returned (.tuple #[.agg #[.int .i64 (t.d.plR mo re), .int .i64 (t.d.plA mo re)], .bool (t.d.plO mo re)]) ∧ Sm w' B g y (t.op mo re) st ∧ Fm w w' g y y
theorem plSm (B g mo re : Nat) (X : Int) (y : Mv) (t : Ms) (st : Int) (w : World) (h : Sm w B g y t st) (hk : Dk t.d) (h7 : mo ≤ 7) (hr : re < 8) : PsIs B g mo re X y t st w := by
  obtain ⟨gr, rc, er⟩ := h.regs hk.rl
  have P : Pm w g B gr rc y t.d := ⟨h.row, h.own, by rw [er, hk.rl], h.ne _ (at_r er)⟩
  have q := plS_any g B gr rc mo re X y t.d w P hk.r8 hr (h.small hk) (hk.getb _) h7
  unfold PlIs at q
  unfold PsIs
  exact q.mono fun e w' ⟨a, p, gw⟩ => ⟨a, ⟨p.row, p.own, h.fl, h.lo, h.ne⟩, Fm.grown gw (.inr (at_r er)) (fun k hk => hk)⟩
/-- What l7Do answers. -/
def DsE (g B : Nat) (y : Mv) (t2 : Ms) (st2 : Int) (ok : Bool) (w : World) (e : Ending) (w' : World) : Prop := ∃ y', e = .returned (.bool ok) ∧ AcE ok (Sm w' B g y' t2 st2) (Fm w w' g y y')
def DsIs (B g op sm sr dm dr : Nat) (sx dx n : Int) (y : Mv) (t : Ms) (st : Int) (w : World) : Prop :=
  Calls Tryz.prog 51 #[.pointer (some ⟨g, 0, none⟩), .agg #[.int .i64 (op : Int), .int .i64 (sm : Int), .int .i64 (sr : Int), .int .i64 sx, .int .i64 (dm : Int), .int .i64 (dr : Int), .int .i64 dx, .int .i64 n]] w (DsE g B y (t.dos op sm sr dm dr n) (doS op st) (t.doB op sm sr dm dr n) w)
set_option maxHeartbeats 8000000 in
theorem ds_two (B g op sm sr dm dr : Nat) (sx dx n : Int) (y : Mv) (t : Ms) (st : Int) (w : World) (h : Sm w B g y t st) (hk : Dk t.d) (h1 : 1 ≤ op) (h6 : op ≤ 6) (s7 : sm ≤ 7) (s8 : sr < 8) (d7 : dm ≤ 7) (d8 : dr < 8) : DsIs B g op sm sr dm dr sx dx n y t st w := by
  have GL := hide (show g < w.heap.size from row_lt h.row)
  have YL := hide (fun b (hb : y.at b) => (h.own.lo hb).2)
  have H1 := hide (h.later (below_new w (Obj.cells #[.int .i64 (op : Int), .int .i64 (sm : Int), .int .i64 (sr : Int), .int .i64 sx, .int .i64 (dm : Int), .int .i64 (dr : Int), .int .i64 dx, .int .i64 n] 69)))
  have F1 := hide (Fm.of (g := g) (y := y) (below_new w (Obj.cells #[.int .i64 (op : Int), .int .i64 (sm : Int), .int .i64 (sr : Int), .int .i64 sx, .int .i64 (dm : Int), .int .i64 (dr : Int), .int .i64 dx, .int .i64 n] 69)))
  have R1 := hide (heap_alloc_last w (Obj.cells #[.int .i64 (op : Int), .int .i64 (sm : Int), .int .i64 (sr : Int), .int .i64 sx, .int .i64 (dm : Int), .int .i64 (dr : Int), .int .i64 dx, .int .i64 n] 69))
  have o6 : (op : Int) ≤ 6 := by omega
  have P1 := hide (plSm B g sm sr sx y t st _ (unhide H1) hk s7 s8)
  have K1 := dk_op hk sm sr
  have K2 := dk_op K1 dm dr
  have LD := hide (fun v (r : Sm v B g y (t.op sm sr) st) => loadS_any y (t.op sm sr).d (t.d.plR sm sr) (t.d.plA sm sr) v (r.small K1) r.own.rd)
  have P2 := hide (fun v (r : Sm v B g y (t.op sm sr) st) => plSm B g dm dr dx y (t.op sm sr) st v r K1 d7 d8)
  have TW := hide (fun v (r : Sm v B g y ((t.op sm sr).op dm dr) st) => two_any B g y ((t.op sm sr).op dm dr) st (t.opV sm sr) ((t.op sm sr).d.plR dm dr) ((t.op sm sr).d.plA dm dr) op ⟨h1, h6⟩ v r K2 (op_v hk sm sr))
  unfold PsIs at P1 P2
  unfold TwIs at TW
  rw [← show t.opV sm sr = (t.op sm sr).d.ldV (t.d.plR sm sr) (t.d.plA sm sr) from rfl] at LD
  unfold DsIs DsE
  rw [show t.dos op sm sr dm dr n = ((t.op sm sr).op dm dr).two op (t.opV sm sr) ((t.op sm sr).d.plR dm dr) ((t.op sm sr).d.plA dm dr) by unfold Ms.dos; rw [if_pos h6]]
  rw [show t.doB op sm sr dm dr n = ((t.d.plO sm sr && (t.op sm sr).d.ldB (t.d.plR sm sr) (t.d.plA sm sr)) && ((t.op sm sr).d.plO dm dr && ((t.op sm sr).op dm dr).d.ldB ((t.op sm sr).d.plR dm dr) ((t.op sm sr).d.plA dm dr))) by unfold Ms.doB Ms.woB Ms.sB Ms.sT; rw [if_pos (by omega), if_pos h6, if_pos h6]; rfl]
  rw [show doS op st = st by unfold doS; rw [if_neg (by omega)]]
  generalize ((t.op sm sr).op dm dr).two op (t.opV sm sr) ((t.op sm sr).d.plR dm dr) ((t.op sm sr).d.plA dm dr) = t3 at TW ⊢
  generalize ((t.op sm sr).op dm dr).d.ldB ((t.op sm sr).d.plR dm dr) ((t.op sm sr).d.plA dm dr) = b4 at TW ⊢
  generalize (t.op sm sr).op dm dr = t2 at P2 TW
  generalize (t.op sm sr).d.plR dm dr = qr at P2 TW
  generalize (t.op sm sr).d.plA dm dr = qa at P2 TW
  generalize (t.op sm sr).d.plO dm dr = b3 at P2 ⊢
  generalize (t.op sm sr).d.ldB (t.d.plR sm sr) (t.d.plA sm sr) = b2 at LD ⊢
  generalize t.opV sm sr = sv at LD TW
  generalize t.op sm sr = t1 at P1 P2 LD
  generalize t.d.plR sm sr = pr at P1 LD
  generalize t.d.plA sm sr = pa at P1 LD
  generalize t.d.plO sm sr = b1 at P1 ⊢
  clear h hk K1 K2
  have k0 := insR 0 _ (unhide R1) rfl
  have k1 := insR 1 _ (unhide R1) rfl
  have k2 := insR 2 _ (unhide R1) rfl
  have k3 := insR 3 _ (unhide R1) rfl
  go_enter Tryz.func51, Tryz.ntmps51
  go_wp2_with fail
  refine (unhide P1).mono ?_
  rintro e w2 ⟨rfl, h2, f2⟩
  have R2 := hide (row_lat (f2.row (unhide R1) (by have := unhide GL; omega) (fun e => by have := unhide YL _ e; omega)) (below_new w2 (Obj.cells #[.int .i64 pr, .int .i64 pa] 97)))
  have F2 := hide (((unhide F1).trans f2).trans (Fm.of (below_new w2 (Obj.cells #[.int .i64 pr, .int .i64 pa] 97))))
  have H2 := hide (h2.later (below_new w2 (Obj.cells #[.int .i64 pr, .int .i64 pa] 97)))
  have Q2 := hide (heap_alloc_last w2 (Obj.cells #[.int .i64 pr, .int .i64 pa] 97))
  clear h2 f2 P1 k0 k1 k2 k3
  cases b1
  · go_wp2_with (refine wpList_store_new rfl 97 _ _ rfl #[.int .i64 pr, .int .i64 pa] rfl rfl _ (by kernel_rfl) rfl rfl ?_)
    go_ret
    first | exact ⟨y, rfl, ⟨fun h => by simp at h, unhide F2⟩⟩ | exact ⟨rfl, y, ⟨fun h => by simp at h, unhide F2⟩⟩
  go_wp2_with (refine wpList_store_new rfl 97 _ _ rfl #[.int .i64 pr, .int .i64 pa] rfl rfl _ (by kernel_rfl) rfl rfl ?_)
  generalize w2.heap.size = pb at Q2 ⊢
  generalize w2.alloc (Obj.cells #[.int .i64 pr, .int .i64 pa] 97) = w3 at H2 F2 R2 Q2 ⊢
  have H3 := hide ((unhide H2).later (below_drew (w := w3)))
  have F3 := hide ((unhide F2).trans (Fm.of (below_drew (w := w3))))
  have R3 := hide (row_lat (unhide R2) (below_drew (w := w3)))
  have HS := hide (And.intro (unhide H3).row (row_lat (unhide Q2) (below_drew (w := w3))))
  refine wp_region_last (fun v => v.heap[g]? = some (.cells y.cs 26 (0, 0)) ∧ v.heap[pb]? = some (.cells #[.int .i64 pr, .int .i64 pa] 97 (0, 0))) 9 (by kernel_rfl) ?_
  generalize w3.drew = wd at H3 F3 R3 HS ⊢
  clear H2 F2 R2 Q2
  refine wpAnyL_takeW (i := 0) (v := .pointer (some ⟨g, 0, none⟩)) rfl (by kernel_rfl) (by kernel_rfl) (by kernel_rfl) (by kernel_rfl) (fun _ _ _ h => h) (Or.inl ⟨by rfl, fun w hc => ?_⟩) (.inl (unhide HS)) ?_
  · clear hc; go_simp
  go_simp
  refine wpAnyL_takeW (i := 1) (v := .pointer (some ⟨g, 0, none⟩)) rfl (by kernel_rfl) (by kernel_rfl) (by kernel_rfl) (by kernel_rfl) (fun _ _ _ h => h) (Or.inl ⟨by rfl, fun w hc => ?_⟩) (.inl (unhide HS)) ?_
  · clear hc; go_simp
  go_simp
  refine wpAnyL_takeS (i := 2) (v := .agg y.cs) rfl (by kernel_rfl) (by kernel_rfl) (by kernel_rfl) (by kernel_rfl) (by kernel_rfl) (fun _ _ _ h => h) (yields_loadQ (by rfl) 26 _ rfl g rfl 26 y.cs _ (fun w h => h.1) Tryz.underlying26 rfl (by kernel_rfl)) (unhide HS) ?_
  go_simp
  refine wpAnyL_takeS (i := 3) (v := .agg #[.int .i64 pr, .int .i64 pa]) rfl (by kernel_rfl) (by kernel_rfl) (by kernel_rfl) (by kernel_rfl) (by kernel_rfl) (fun _ _ _ h => h) (yields_loadQ (by rfl) 97 _ rfl pb rfl 97 #[.int .i64 pr, .int .i64 pa] _ (fun w h => h.2) Tryz.underlying97 rfl (by kernel_rfl)) (unhide HS) ?_
  go_simp
  refine wpAnyL_one (i := 4) (by kernel_rfl) rfl (fun K2 hK => ?_)
  go_simp
  refine (unhide LD _ (unhide H3)).mono ?_
  rintro e w4 ⟨rfl, b4'⟩
  have H4 := hide ((unhide H3).later b4')
  have F4 := hide ((unhide F3).trans (Fm.of b4'))
  have R4 := hide (row_lat (unhide R3) b4')
  have HS4 := hide (And.intro (unhide H4).row (row_lat (unhide HS).2 b4'))
  refine hK.out _ _ (fun _ => unhide HS4) ?_
  clear hK K2 b4' LD HS H3 F3 R3
  have HS := hide (unhide HS4)
  refine wpAnyL_takeW (i := 5) (v := .tuple #[.int .i64 sv, .bool b2]) rfl (by kernel_rfl) (by kernel_rfl) (by kernel_rfl) (by kernel_rfl) (fun _ _ _ h => h) (Or.inl ⟨by rfl, fun w hc => ?_⟩) (.inl (unhide HS)) ?_
  · clear hc; go_simp
  go_simp
  refine wpAnyL_takeW (i := 6) (v := .int .i64 sv) rfl (by kernel_rfl) (by kernel_rfl) (by kernel_rfl) (by kernel_rfl) (fun _ _ _ h => h) (Or.inl ⟨by rfl, fun w hc => ?_⟩) (.inl (unhide HS)) ?_
  · clear hc; go_simp
  go_simp
  refine wpAnyL_takeW (i := 7) (v := .bool b2) rfl (by kernel_rfl) (by kernel_rfl) (by kernel_rfl) (by kernel_rfl) (fun _ _ _ h => h) (Or.inl ⟨by rfl, fun w hc => ?_⟩) (.inl (unhide HS)) ?_
  · clear hc; go_simp
  go_simp
  refine wpAnyL_takeW (i := 8) (v := .int .i64 sv) rfl (by kernel_rfl) (by kernel_rfl) (by kernel_rfl) (by kernel_rfl) (fun _ _ _ h => h) (Or.inl ⟨by rfl, fun w hc => ?_⟩) (.inl (unhide HS)) ?_
  · clear hc; go_simp
  go_simp
  refine wpAnyL_one (i := 9) (by kernel_rfl) rfl (fun K2 hK => ?_)
  go_simp
  refine hK.out _ _ (fun h => absurd h (by decide)) ?_
  clear hK K2 HS HS4
  refine wpAnyL_done (by kernel_rfl) ?_ _
  cases b2
  · go_wp2
    go_ret
    first | exact ⟨y, rfl, ⟨fun h => by simp at h, unhide F4⟩⟩ | exact ⟨rfl, y, ⟨fun h => by simp at h, unhide F4⟩⟩
  have k4 := insR 4 _ (unhide R4) rfl
  have k5 := insR 5 _ (unhide R4) rfl
  have k6 := insR 6 _ (unhide R4) rfl
  have P3 := hide (unhide P2 _ (unhide H4))
  clear P2
  go_wp2_with fail
  refine (unhide P3).mono ?_
  rintro e w5 ⟨rfl, h5, f5⟩
  have R5 := hide (row_lat (f5.row (unhide R4) (by have := unhide GL; omega) (fun e => by have := unhide YL _ e; omega)) (below_new w5 (Obj.cells #[.int .i64 qr, .int .i64 qa] 97)))
  have F5 := hide (((unhide F4).trans f5).trans (Fm.of (below_new w5 (Obj.cells #[.int .i64 qr, .int .i64 qa] 97))))
  have H5 := hide (h5.later (below_new w5 (Obj.cells #[.int .i64 qr, .int .i64 qa] 97)))
  have Q5 := hide (heap_alloc_last w5 (Obj.cells #[.int .i64 qr, .int .i64 qa] 97))
  have TW2 := hide (unhide TW _ (unhide H5))
  have k0 := insR 0 _ (unhide R5) rfl
  clear h5 f5 P3 k4 k5 k6 TW
  cases b3
  · go_wp2_with (refine wpList_store_new rfl 97 _ _ rfl #[.int .i64 qr, .int .i64 qa] rfl rfl _ (by kernel_rfl) rfl rfl ?_)
    go_ret
    first | exact ⟨y, rfl, ⟨fun h => by simp at h, unhide F5⟩⟩ | exact ⟨rfl, y, ⟨fun h => by simp at h, unhide F5⟩⟩
  go_wp2_with (first | (refine wpList_store_new rfl 97 _ _ rfl #[.int .i64 qr, .int .i64 qa] rfl rfl _ (by kernel_rfl) rfl rfl ?_) | (refine wpList_load_row rfl 97 _ rfl w5.heap.size rfl 97 #[.int .i64 qr, .int .i64 qa] (0, 0) _ (unhide Q5) Tryz.underlying97 rfl (by kernel_rfl) ?_))
  refine (unhide TW2).mono ?_
  rintro e w6 ⟨rfl, y6, h6', f6⟩
  have H6 := hide h6'
  have F6 := hide ((unhide F5).trans f6)
  clear h6' f6 TW2
  go_wp2
  go_ret
  first | exact ⟨y6, rfl, ⟨fun ho => unhide H6 (by simpa using ho), unhide F6⟩⟩ | exact ⟨rfl, y6, ⟨fun ho => unhide H6 (by simpa using ho), unhide F6⟩⟩
set_option maxHeartbeats 4000000 in
theorem ds_one (B g op sm sr dm dr : Nat) (sx dx n : Int) (y : Mv) (t : Ms) (st : Int) (w : World) (h : Sm w B g y t st) (hk : Dk t.d) (h7 : 7 ≤ op) (h13 : op ≤ 13) (d7 : dm ≤ 7) (d8 : dr < 8) : DsIs B g op sm sr dm dr sx dx n y t st w := by
  have GL := hide (show g < w.heap.size from row_lt h.row)
  have YL := hide (fun b (hb : y.at b) => (h.own.lo hb).2)
  have H1 := hide (h.later (below_new w (Obj.cells #[.int .i64 (op : Int), .int .i64 (sm : Int), .int .i64 (sr : Int), .int .i64 sx, .int .i64 (dm : Int), .int .i64 (dr : Int), .int .i64 dx, .int .i64 n] 69)))
  have F1 := hide (Fm.of (g := g) (y := y) (below_new w (Obj.cells #[.int .i64 (op : Int), .int .i64 (sm : Int), .int .i64 (sr : Int), .int .i64 sx, .int .i64 (dm : Int), .int .i64 (dr : Int), .int .i64 dx, .int .i64 n] 69)))
  have R1 := hide (heap_alloc_last w (Obj.cells #[.int .i64 (op : Int), .int .i64 (sm : Int), .int .i64 (sr : Int), .int .i64 sx, .int .i64 (dm : Int), .int .i64 (dr : Int), .int .i64 dx, .int .i64 n] 69))
  have P1 := hide (plSm B g dm dr dx y t st _ (unhide H1) hk d7 d8)
  have K1 := dk_op hk dm dr
  unfold PsIs at P1
  have o6 : ¬ (op : Int) ≤ 6 := by omega
  have o6' : (6 : Int) < (op : Int) := by omega
  have o15 : (op : Int) ≤ 15 := by omega
  have n14 : (op : Int) ≠ 14 := by omega
  have n15 : (op : Int) ≠ 15 := by omega
  have CT := hide (fun v (r : Sm v B g y (t.op dm dr) st) => one_any B g y (t.op dm dr) st (t.d.plR dm dr) (t.d.plA dm dr) op ⟨h7, h13⟩ v r K1)
  unfold OnIs at CT
  unfold DsIs DsE
  rw [show t.dos op sm sr dm dr n = (t.op dm dr).one op (t.d.plR dm dr) (t.d.plA dm dr) by unfold Ms.dos; rw [if_neg (by omega), if_pos h13]]
  rw [show t.doB op sm sr dm dr n = (t.d.plO dm dr && (t.op dm dr).d.ldB (t.d.plR dm dr) (t.d.plA dm dr)) by unfold Ms.doB Ms.woB Ms.sB Ms.sT; rw [if_pos h13, if_neg (by omega), if_neg (by omega), Bool.true_and]; rfl]
  rw [show doS op st = st by unfold doS; rw [if_neg (by omega)]]
  generalize (t.op dm dr).one op (t.d.plR dm dr) (t.d.plA dm dr) = t3 at CT ⊢
  generalize (t.op dm dr).d.ldB (t.d.plR dm dr) (t.d.plA dm dr) = b4 at CT ⊢
  generalize t.op dm dr = t2 at P1 CT
  generalize t.d.plO dm dr = b1 at P1 ⊢
  generalize t.d.plR dm dr = pr at P1 CT
  generalize t.d.plA dm dr = pa at P1 CT
  clear h hk K1
  have k0 := insR 0 _ (unhide R1) rfl
  have k4 := insR 4 _ (unhide R1) rfl
  have k5 := insR 5 _ (unhide R1) rfl
  have k6 := insR 6 _ (unhide R1) rfl
  go_enter Tryz.func51, Tryz.ntmps51
  go_wp2_with fail
  refine (unhide P1).mono ?_
  rintro e w2 ⟨rfl, h2, f2⟩
  have R2 := hide (row_lat (f2.row (unhide R1) (by have := unhide GL; omega) (fun e => by have := unhide YL _ e; omega)) (below_new w2 (Obj.cells #[.int .i64 pr, .int .i64 pa] 97)))
  have F2 := hide (((unhide F1).trans f2).trans (Fm.of (below_new w2 (Obj.cells #[.int .i64 pr, .int .i64 pa] 97))))
  have H2 := hide (h2.later (below_new w2 (Obj.cells #[.int .i64 pr, .int .i64 pa] 97)))
  have Q2 := hide (heap_alloc_last w2 (Obj.cells #[.int .i64 pr, .int .i64 pa] 97))
  clear h2 f2 P1 k0 k4 k5 k6
  have k0 := insR 0 _ (unhide R2) rfl
  have k7 := insR 7 _ (unhide R2) rfl
  cases b1
  · go_wp2_with (refine wpList_store_new rfl 97 _ _ rfl #[.int .i64 pr, .int .i64 pa] rfl rfl _ (by kernel_rfl) rfl rfl ?_)
    go_ret
    first | exact ⟨y, rfl, ⟨fun h => by simp at h, unhide F2⟩⟩ | exact ⟨rfl, y, ⟨fun h => by simp at h, unhide F2⟩⟩
  have CC := hide (unhide CT _ (unhide H2))
  clear CT
  go_wp2_with (first | (refine wpList_store_new rfl 97 _ _ rfl #[.int .i64 pr, .int .i64 pa] rfl rfl _ (by kernel_rfl) rfl rfl ?_) | (refine wpList_load_row rfl 97 _ rfl w2.heap.size rfl 97 #[.int .i64 pr, .int .i64 pa] (0, 0) _ (unhide Q2) Tryz.underlying97 rfl (by kernel_rfl) ?_))
  refine (unhide CC).mono ?_
  rintro e w6 ⟨rfl, y6, h6', f6⟩
  have H6 := hide h6'
  have F6 := hide ((unhide F2).trans f6)
  clear h6' f6 CC
  go_wp2
  go_ret
  first | exact ⟨y6, rfl, ⟨fun ho => unhide H6 (by simpa using ho), unhide F6⟩⟩ | exact ⟨rfl, y6, ⟨fun ho => unhide H6 (by simpa using ho), unhide F6⟩⟩
set_option maxHeartbeats 4000000 in
theorem ds_jmp (B g sm sr dm dr : Nat) (sx dx n : Int) (y : Mv) (t : Ms) (st : Int) (w : World) (h : Sm w B g y t st) (hk : Dk t.d) (d7 : dm ≤ 7) (d8 : dr < 8) : DsIs B g 14 sm sr dm dr sx dx n y t st w := by
  have GL := hide (show g < w.heap.size from row_lt h.row)
  have YL := hide (fun b (hb : y.at b) => (h.own.lo hb).2)
  have H1 := hide (h.later (below_new w (Obj.cells #[.int .i64 14, .int .i64 (sm : Int), .int .i64 (sr : Int), .int .i64 sx, .int .i64 (dm : Int), .int .i64 (dr : Int), .int .i64 dx, .int .i64 n] 69)))
  have F1 := hide (Fm.of (g := g) (y := y) (below_new w (Obj.cells #[.int .i64 14, .int .i64 (sm : Int), .int .i64 (sr : Int), .int .i64 sx, .int .i64 (dm : Int), .int .i64 (dr : Int), .int .i64 dx, .int .i64 n] 69)))
  have R1 := hide (heap_alloc_last w (Obj.cells #[.int .i64 14, .int .i64 (sm : Int), .int .i64 (sr : Int), .int .i64 sx, .int .i64 (dm : Int), .int .i64 (dr : Int), .int .i64 dx, .int .i64 n] 69))
  have P1 := hide (plSm B g dm dr dx y t st _ (unhide H1) hk d7 d8)
  have K1 := dk_op hk dm dr
  unfold PsIs at P1
  have CT := hide (show ∀ v, Sm v B g y (t.op dm dr) st → GoIs B g y (t.op dm dr) ((t.op dm dr).rg 7 (t.d.plA dm dr)) st (t.d.plR dm dr) (t.d.plA dm dr) (-1) (t.d.plR dm dr == -1) v from fun v r => by
    by_cases hq : t.d.plR dm dr = -1
    · rw [hq]
      exact go_j B g y (t.op dm dr) st (t.d.plA dm dr) v r K1
    · rw [beq_false_of_ne hq]
      exact go_no B g y (t.op dm dr) _ st _ _ _ v r hq)
  unfold GoIs at CT
  unfold DsIs DsE
  rw [show t.dos 14 sm sr dm dr n = (t.op dm dr).rg 7 (t.d.plA dm dr) from rfl]
  rw [show t.doB 14 sm sr dm dr n = (t.d.plO dm dr && (t.d.plR dm dr == -1)) from rfl]
  rw [show doS 14 st = st from rfl]
  generalize (t.op dm dr).rg 7 (t.d.plA dm dr) = t3 at CT ⊢
  generalize (t.d.plR dm dr == -1) = b4 at CT ⊢
  generalize t.op dm dr = t2 at P1 CT
  generalize t.d.plO dm dr = b1 at P1 ⊢
  generalize t.d.plR dm dr = pr at P1 CT
  generalize t.d.plA dm dr = pa at P1 CT
  clear h hk K1
  have k0 := insR 0 _ (unhide R1) rfl
  have k4 := insR 4 _ (unhide R1) rfl
  have k5 := insR 5 _ (unhide R1) rfl
  have k6 := insR 6 _ (unhide R1) rfl
  go_enter Tryz.func51, Tryz.ntmps51
  go_wp2_with fail
  refine (unhide P1).mono ?_
  rintro e w2 ⟨rfl, h2, f2⟩
  have R2 := hide (row_lat (f2.row (unhide R1) (by have := unhide GL; omega) (fun e => by have := unhide YL _ e; omega)) (below_new w2 (Obj.cells #[.int .i64 pr, .int .i64 pa] 97)))
  have F2 := hide (((unhide F1).trans f2).trans (Fm.of (below_new w2 (Obj.cells #[.int .i64 pr, .int .i64 pa] 97))))
  have H2 := hide (h2.later (below_new w2 (Obj.cells #[.int .i64 pr, .int .i64 pa] 97)))
  have Q2 := hide (heap_alloc_last w2 (Obj.cells #[.int .i64 pr, .int .i64 pa] 97))
  clear h2 f2 P1 k0 k4 k5 k6
  have k0 := insR 0 _ (unhide R2) rfl
  have k7 := insR 7 _ (unhide R2) rfl
  cases b1
  · go_wp2_with (refine wpList_store_new rfl 97 _ _ rfl #[.int .i64 pr, .int .i64 pa] rfl rfl _ (by kernel_rfl) rfl rfl ?_)
    go_ret
    first | exact ⟨y, rfl, ⟨fun h => by simp at h, unhide F2⟩⟩ | exact ⟨rfl, y, ⟨fun h => by simp at h, unhide F2⟩⟩
  have CC := hide (unhide CT _ (unhide H2))
  clear CT
  go_wp2_with (first | (refine wpList_store_new rfl 97 _ _ rfl #[.int .i64 pr, .int .i64 pa] rfl rfl _ (by kernel_rfl) rfl rfl ?_) | (refine wpList_load_row rfl 97 _ rfl w2.heap.size rfl 97 #[.int .i64 pr, .int .i64 pa] (0, 0) _ (unhide Q2) Tryz.underlying97 rfl (by kernel_rfl) ?_))
  refine (unhide CC).mono ?_
  rintro e w6 ⟨rfl, y6, h6', f6⟩
  have H6 := hide h6'
  have F6 := hide ((unhide F2).trans f6)
  clear h6' f6 CC
  go_wp2
  go_ret
  first | exact ⟨y6, rfl, ⟨fun ho => unhide H6 (by simpa using ho), unhide F6⟩⟩ | exact ⟨rfl, y6, ⟨fun ho => unhide H6 (by simpa using ho), unhide F6⟩⟩
set_option maxHeartbeats 4000000 in
theorem ds_jsr (B g sm sr dm dr : Nat) (sx dx : Int) (k : Nat) (y : Mv) (t : Ms) (st : Int) (w : World) (h : Sm w B g y t st) (hk : Dk t.d) (k8 : k < 8) (d7 : dm ≤ 7) (d8 : dr < 8) : DsIs B g 15 sm sr dm dr sx dx (k : Int) y t st w := by
  have GL := hide (show g < w.heap.size from row_lt h.row)
  have YL := hide (fun b (hb : y.at b) => (h.own.lo hb).2)
  have H1 := hide (h.later (below_new w (Obj.cells #[.int .i64 15, .int .i64 (sm : Int), .int .i64 (sr : Int), .int .i64 sx, .int .i64 (dm : Int), .int .i64 (dr : Int), .int .i64 dx, .int .i64 (k : Int)] 69)))
  have F1 := hide (Fm.of (g := g) (y := y) (below_new w (Obj.cells #[.int .i64 15, .int .i64 (sm : Int), .int .i64 (sr : Int), .int .i64 sx, .int .i64 (dm : Int), .int .i64 (dr : Int), .int .i64 dx, .int .i64 (k : Int)] 69)))
  have R1 := hide (heap_alloc_last w (Obj.cells #[.int .i64 15, .int .i64 (sm : Int), .int .i64 (sr : Int), .int .i64 sx, .int .i64 (dm : Int), .int .i64 (dr : Int), .int .i64 dx, .int .i64 (k : Int)] 69))
  have P1 := hide (plSm B g dm dr dx y t st _ (unhide H1) hk d7 d8)
  have K1 := dk_op hk dm dr
  unfold PsIs at P1
  have CT := hide (show ∀ v, Sm v B g y (t.op dm dr) st → GoIs B g y (t.op dm dr) ((t.op dm dr).call k (t.d.plA dm dr)) st (t.d.plR dm dr) (t.d.plA dm dr) (k : Int) ((t.d.plR dm dr == -1) && (t.op dm dr).go1.d.ldB (-1) ((nAt (t.op dm dr).d.r 6 - 2) % 65536)) v from fun v r => by
    by_cases hq : t.d.plR dm dr = -1
    · rw [hq]
      exact go_any B g k y (t.op dm dr) st (t.d.plA dm dr) v r K1 k8
    · rw [beq_false_of_ne hq, Bool.false_and]
      exact go_no B g y (t.op dm dr) _ st _ _ _ v r hq)
  unfold GoIs at CT
  unfold DsIs DsE
  rw [show t.dos 15 sm sr dm dr (k : Int) = (t.op dm dr).call k (t.d.plA dm dr) from rfl]
  rw [show t.doB 15 sm sr dm dr (k : Int) = (t.d.plO dm dr && ((t.d.plR dm dr == -1) && (t.op dm dr).go1.d.ldB (-1) ((nAt (t.op dm dr).d.r 6 - 2) % 65536))) by unfold Ms.doB clO tgO; rw [Bool.and_assoc]; rfl]
  rw [show doS 15 st = st from rfl]
  generalize (t.op dm dr).call k (t.d.plA dm dr) = t3 at CT ⊢
  generalize ((t.d.plR dm dr == -1) && (t.op dm dr).go1.d.ldB (-1) ((nAt (t.op dm dr).d.r 6 - 2) % 65536)) = b4 at CT ⊢
  generalize t.op dm dr = t2 at P1 CT
  generalize t.d.plO dm dr = b1 at P1 ⊢
  generalize t.d.plR dm dr = pr at P1 CT
  generalize t.d.plA dm dr = pa at P1 CT
  clear h hk K1
  have k0 := insR 0 _ (unhide R1) rfl
  have k4 := insR 4 _ (unhide R1) rfl
  have k5 := insR 5 _ (unhide R1) rfl
  have k6 := insR 6 _ (unhide R1) rfl
  go_enter Tryz.func51, Tryz.ntmps51
  go_wp2_with fail
  refine (unhide P1).mono ?_
  rintro e w2 ⟨rfl, h2, f2⟩
  have R2 := hide (row_lat (f2.row (unhide R1) (by have := unhide GL; omega) (fun e => by have := unhide YL _ e; omega)) (below_new w2 (Obj.cells #[.int .i64 pr, .int .i64 pa] 97)))
  have F2 := hide (((unhide F1).trans f2).trans (Fm.of (below_new w2 (Obj.cells #[.int .i64 pr, .int .i64 pa] 97))))
  have H2 := hide (h2.later (below_new w2 (Obj.cells #[.int .i64 pr, .int .i64 pa] 97)))
  have Q2 := hide (heap_alloc_last w2 (Obj.cells #[.int .i64 pr, .int .i64 pa] 97))
  clear h2 f2 P1 k0 k4 k5 k6
  have k0 := insR 0 _ (unhide R2) rfl
  have k7 := insR 7 _ (unhide R2) rfl
  cases b1
  · go_wp2_with (refine wpList_store_new rfl 97 _ _ rfl #[.int .i64 pr, .int .i64 pa] rfl rfl _ (by kernel_rfl) rfl rfl ?_)
    go_ret
    first | exact ⟨y, rfl, ⟨fun h => by simp at h, unhide F2⟩⟩ | exact ⟨rfl, y, ⟨fun h => by simp at h, unhide F2⟩⟩
  have CC := hide (unhide CT _ (unhide H2))
  clear CT
  go_wp2_with (first | (refine wpList_store_new rfl 97 _ _ rfl #[.int .i64 pr, .int .i64 pa] rfl rfl _ (by kernel_rfl) rfl rfl ?_) | (refine wpList_load_row rfl 97 _ rfl w2.heap.size rfl 97 #[.int .i64 pr, .int .i64 pa] (0, 0) _ (unhide Q2) Tryz.underlying97 rfl (by kernel_rfl) ?_))
  refine (unhide CC).mono ?_
  rintro e w6 ⟨rfl, y6, h6', f6⟩
  have H6 := hide h6'
  have F6 := hide ((unhide F2).trans f6)
  clear h6' f6 CC
  go_wp2
  go_ret
  first | exact ⟨y6, rfl, ⟨fun ho => unhide H6 (by simpa using ho), unhide F6⟩⟩ | exact ⟨rfl, y6, ⟨fun ho => unhide H6 (by simpa using ho), unhide F6⟩⟩
set_option maxHeartbeats 4000000 in
theorem ds_rts (B g sm sr dm dr : Nat) (sx dx : Int) (k : Nat) (y : Mv) (t : Ms) (st : Int) (w : World) (h : Sm w B g y t st) (hk : Dk t.d) (k8 : k < 8) : DsIs B g 16 sm sr dm dr sx dx (k : Int) y t st w := by
  have GL := hide (show g < w.heap.size from row_lt h.row)
  have YL := hide (fun b (hb : y.at b) => (h.own.lo hb).2)
  have H1 := hide (h.later (below_new w (Obj.cells #[.int .i64 16, .int .i64 (sm : Int), .int .i64 (sr : Int), .int .i64 sx, .int .i64 (dm : Int), .int .i64 (dr : Int), .int .i64 dx, .int .i64 (k : Int)] 69)))
  have F1 := hide (Fm.of (g := g) (y := y) (below_new w (Obj.cells #[.int .i64 16, .int .i64 (sm : Int), .int .i64 (sr : Int), .int .i64 sx, .int .i64 (dm : Int), .int .i64 (dr : Int), .int .i64 dx, .int .i64 (k : Int)] 69)))
  have R1 := hide (heap_alloc_last w (Obj.cells #[.int .i64 16, .int .i64 (sm : Int), .int .i64 (sr : Int), .int .i64 sx, .int .i64 (dm : Int), .int .i64 (dr : Int), .int .i64 dx, .int .i64 (k : Int)] 69))
  have CC := hide (back_any B g k y t st _ (unhide H1) hk k8)
  unfold BkIs at CC
  unfold DsIs DsE
  rw [show t.dos 16 sm sr dm dr (k : Int) = t.back k from rfl]
  rw [show t.doB 16 sm sr dm dr (k : Int) = (t.back1 k).d.has (nAt t.d.r 6) from rfl]
  rw [show doS 16 st = st from rfl]
  generalize t.back k = t3 at CC ⊢
  generalize (t.back1 k).d.has (nAt t.d.r 6) = b4 at CC ⊢
  clear h hk
  have k0 := insR 0 _ (unhide R1) rfl
  have k7 := insR 7 _ (unhide R1) rfl
  go_enter Tryz.func51, Tryz.ntmps51
  go_wp2_with fail
  refine (unhide CC).mono ?_
  rintro e w6 ⟨rfl, h6', f6⟩
  have H6 := hide h6'
  have F6 := hide ((unhide F1).trans f6)
  clear h6' f6 CC
  go_wp2
  go_ret
  first | exact ⟨y, rfl, ⟨fun ho => unhide H6 (by simpa using ho), unhide F6⟩⟩ | exact ⟨rfl, y, ⟨fun ho => unhide H6 (by simpa using ho), unhide F6⟩⟩
set_option maxHeartbeats 4000000 in
theorem ds_br (B g op sm sr dm dr : Nat) (sx dx n : Int) (y : Mv) (t : Ms) (st : Int) (w : World) (h : Sm w B g y t st) (hk : Dk t.d) (h17 : 17 ≤ op) (h21 : op ≤ 21) (hn : -1000 ≤ n ∧ n ≤ 1000) : DsIs B g op sm sr dm dr sx dx n y t st w := by
  have GL := hide (show g < w.heap.size from row_lt h.row)
  have YL := hide (fun b (hb : y.at b) => (h.own.lo hb).2)
  have H1 := hide (h.later (below_new w (Obj.cells #[.int .i64 (op : Int), .int .i64 (sm : Int), .int .i64 (sr : Int), .int .i64 sx, .int .i64 (dm : Int), .int .i64 (dr : Int), .int .i64 dx, .int .i64 n] 69)))
  have F1 := hide (Fm.of (g := g) (y := y) (below_new w (Obj.cells #[.int .i64 (op : Int), .int .i64 (sm : Int), .int .i64 (sr : Int), .int .i64 sx, .int .i64 (dm : Int), .int .i64 (dr : Int), .int .i64 dx, .int .i64 n] 69)))
  have R1 := hide (heap_alloc_last w (Obj.cells #[.int .i64 (op : Int), .int .i64 (sm : Int), .int .i64 (sr : Int), .int .i64 sx, .int .i64 (dm : Int), .int .i64 (dr : Int), .int .i64 dx, .int .i64 n] 69))
  have o6 : ¬ (op : Int) ≤ 6 := by omega
  have o15 : ¬ (op : Int) ≤ 15 := by omega
  have n16 : (op : Int) ≠ 16 := by omega
  have o21 : (op : Int) ≤ 21 := by omega
  have CC := hide (branch_any B g y t st (sm : Int) (sr : Int) sx (dm : Int) (dr : Int) dx n op ⟨h17, h21⟩ _ (unhide H1) hk hn)
  unfold BrIs at CC
  unfold DsIs DsE
  rw [show t.dos op sm sr dm dr n = t.branch op n by unfold Ms.dos; rw [if_neg (by omega), if_neg (by omega), if_neg (by omega), if_neg (by omega), if_neg (by omega), if_pos h21]]
  rw [show t.doB op sm sr dm dr n = true by unfold Ms.doB; rw [if_neg (by omega), if_neg (by omega), if_neg (by omega), if_neg (by omega), if_pos (by omega)]]
  rw [show doS op st = st by unfold doS; rw [if_neg (by omega)]]
  generalize t.branch op n = t3 at CC ⊢
  clear h hk
  have k0 := insR 0 _ (unhide R1) rfl
  go_enter Tryz.func51, Tryz.ntmps51
  go_wp2_with (refine wpList_load_row rfl 69 _ rfl w.heap.size rfl 69 #[.int .i64 (op : Int), .int .i64 (sm : Int), .int .i64 (sr : Int), .int .i64 sx, .int .i64 (dm : Int), .int .i64 (dr : Int), .int .i64 dx, .int .i64 n] (0, 0) _ (unhide R1) Tryz.underlying69 rfl (by kernel_rfl) ?_)
  refine (unhide CC).mono ?_
  rintro e w6 ⟨rfl, h6', f6⟩
  have H6 := hide h6'
  have F6 := hide ((unhide F1).trans f6)
  clear h6' f6 CC
  go_wp2
  go_ret
  first | exact ⟨y, rfl, ⟨fun _ => unhide H6, unhide F6⟩⟩ | exact ⟨rfl, y, ⟨fun _ => unhide H6, unhide F6⟩⟩
theorem Sm.setS {w : World} {B g : Nat} {y : Mv} {t : Ms} {st : Int} (h : Sm w B g y t st) (s : Int) : Sm (w.setCell ⟨g, 8, none⟩ (.int .i64 s)) B g { y with st := s } t s ∧ Fm w (w.setCell ⟨g, 8, none⟩ (.int .i64 s)) g y { y with st := s } :=
  ⟨h.setF 8 (.int .i64 s) { y with st := s } t s rfl rfl rfl rfl rfl rfl (by have := h.fl; unfold Mv.fl Ms.fl at *; simp at *; exact ⟨this.1, this.2.1, this.2.2.1, this.2.2.2.1⟩), Fm.grown (grownBy_set (b := g) (o := 8) (.int .i64 s)) (.inl rfl) (fun k hk => hk)⟩
set_option maxHeartbeats 4000000 in
theorem ds_halt (B g sm sr dm dr : Nat) (sx dx n : Int) (y : Mv) (t : Ms) (st : Int) (w : World) (h : Sm w B g y t st) (hk : Dk t.d) : DsIs B g 22 sm sr dm dr sx dx n y t st w := by
  have GL := hide (show g < w.heap.size from row_lt h.row)
  have YL := hide (fun b (hb : y.at b) => (h.own.lo hb).2)
  have H1 := hide (h.later (below_new w (Obj.cells #[.int .i64 22, .int .i64 (sm : Int), .int .i64 (sr : Int), .int .i64 sx, .int .i64 (dm : Int), .int .i64 (dr : Int), .int .i64 dx, .int .i64 n] 69)))
  have F1 := hide (Fm.of (g := g) (y := y) (below_new w (Obj.cells #[.int .i64 22, .int .i64 (sm : Int), .int .i64 (sr : Int), .int .i64 sx, .int .i64 (dm : Int), .int .i64 (dr : Int), .int .i64 dx, .int .i64 n] 69)))
  have R1 := hide (heap_alloc_last w (Obj.cells #[.int .i64 22, .int .i64 (sm : Int), .int .i64 (sr : Int), .int .i64 sx, .int .i64 (dm : Int), .int .i64 (dr : Int), .int .i64 dx, .int .i64 n] 69))
  have c8 := row_st (unhide H1).row
  have e8 := row_fz (unhide H1).row 8
  obtain ⟨h2, f2⟩ := (unhide H1).setS 1
  have H2 := hide h2
  have F2 := hide ((unhide F1).trans f2)
  unfold DsIs DsE
  rw [show t.dos 22 sm sr dm dr n = t from rfl, show t.doB 22 sm sr dm dr n = true from rfl, show doS 22 st = 1 from rfl]
  have k0 := insR 0 _ (unhide R1) rfl
  clear h hk h2 f2
  go_enter Tryz.func51, Tryz.ntmps51
  go_wp2
  go_ret
  first | exact ⟨_, rfl, ⟨fun _ => unhide H2, unhide F2⟩⟩ | exact ⟨rfl, _, ⟨fun _ => unhide H2, unhide F2⟩⟩
set_option maxHeartbeats 4000000 in
theorem ds_emt (B g sm sr dm dr : Nat) (sx dx n : Int) (y : Mv) (t : Ms) (st : Int) (w : World) (h : Sm w B g y t st) (hk : Dk t.d) : DsIs B g 23 sm sr dm dr sx dx n y t st w := by
  have GL := hide (show g < w.heap.size from row_lt h.row)
  have YL := hide (fun b (hb : y.at b) => (h.own.lo hb).2)
  have H1 := hide (h.later (below_new w (Obj.cells #[.int .i64 23, .int .i64 (sm : Int), .int .i64 (sr : Int), .int .i64 sx, .int .i64 (dm : Int), .int .i64 (dr : Int), .int .i64 dx, .int .i64 n] 69)))
  have F1 := hide (Fm.of (g := g) (y := y) (below_new w (Obj.cells #[.int .i64 23, .int .i64 (sm : Int), .int .i64 (sr : Int), .int .i64 sx, .int .i64 (dm : Int), .int .i64 (dr : Int), .int .i64 dx, .int .i64 n] 69)))
  have R1 := hide (heap_alloc_last w (Obj.cells #[.int .i64 23, .int .i64 (sm : Int), .int .i64 (sr : Int), .int .i64 sx, .int .i64 (dm : Int), .int .i64 (dr : Int), .int .i64 dx, .int .i64 n] 69))
  have CC := hide (emt_any B g y t st n _ (unhide H1) hk)
  unfold EmIs at CC
  unfold DsIs DsE
  rw [show t.dos 23 sm sr dm dr n = t.emt n from rfl, show t.doB 23 sm sr dm dr n = t.emtB n from rfl, show doS 23 st = st from rfl]
  generalize t.emt n = t3 at CC ⊢
  generalize t.emtB n = b4 at CC ⊢
  clear h hk
  have k0 := insR 0 _ (unhide R1) rfl
  have k7 := insR 7 _ (unhide R1) rfl
  go_enter Tryz.func51, Tryz.ntmps51
  go_wp2_with fail
  refine (unhide CC).mono ?_
  rintro e w6 ⟨rfl, y6, h6', f6⟩
  have H6 := hide h6'
  have F6 := hide ((unhide F1).trans f6)
  clear h6' f6 CC
  go_wp2
  go_ret
  first | exact ⟨y6, rfl, ⟨fun ho => unhide H6 (by simpa using ho), unhide F6⟩⟩ | exact ⟨rfl, y6, ⟨fun ho => unhide H6 (by simpa using ho), unhide F6⟩⟩
theorem ds_any (B g op sm sr dm dr : Nat) (sx dx n : Int) (y : Mv) (t : Ms) (st : Int) (w : World) (h : Sm w B g y t st) (hk : Dk t.d) (hi : InsN op sm sr dm dr n) : DsIs B g op sm sr dm dr sx dx n y t st w := by
  have := hi.lo
  have := hi.hi
  by_cases h6 : op ≤ 6
  · have a := hi.src h6
    have b := hi.dst (by omega)
    exact ds_two B g op sm sr dm dr sx dx n y t st w h hk hi.lo h6 a.1 a.2 b.1 b.2
  by_cases h13 : op ≤ 13
  · have b := hi.dst (by omega)
    exact ds_one B g op sm sr dm dr sx dx n y t st w h hk (by omega) h13 b.1 b.2
  by_cases h14 : op = 14
  · subst h14
    have b := hi.dst (by omega)
    exact ds_jmp B g sm sr dm dr sx dx n y t st w h hk b.1 b.2
  by_cases h15 : op = 15
  · subst h15
    have b := hi.dst (by omega)
    have r := hi.reg (.inl rfl)
    obtain ⟨k, rfl⟩ := Int.eq_ofNat_of_zero_le r.1
    exact ds_jsr B g sm sr dm dr sx dx k y t st w h hk (by omega) b.1 b.2
  by_cases h16 : op = 16
  · subst h16
    have r := hi.reg (.inr rfl)
    obtain ⟨k, rfl⟩ := Int.eq_ofNat_of_zero_le r.1
    exact ds_rts B g sm sr dm dr sx dx k y t st w h hk (by omega)
  by_cases h21 : op ≤ 21
  · exact ds_br B g op sm sr dm dr sx dx n y t st w h hk (by omega) h21 (hi.bra (by omega))
  by_cases h22 : op = 22
  · subst h22
    exact ds_halt B g sm sr dm dr sx dx n y t st w h hk
  · have h23 : op = 23 := by omega
    subst h23
    exact ds_emt B g sm sr dm dr sx dx n y t st w h hk
end Go.Proofs.YtjpbjbnialehbaaGreatDoor

namespace Go.Proofs.YtjpbjbnialehbaaGreatDoor
open Go.ChangeShapes Go.WideShapes Go.ChangeAt Go.RowKit
set_option linter.unusedVariables false
set_option maxRecDepth 8000
set_option linter.unusedSimpArgs false
section
variable {P : Program} {ops : Array Oper} {Q : Exit → Act → World → Prop} {md : Region.Mode} {S : World → Prop} {last : Nat}
/-- One of two operations may come up. -/
theorem wpAnyL_two {i j : Nat} {oi oj : Oper} {fuel : Nat} {listed : Array Bool} {a : Act} {w : World} (hr : Region.ready md ops listed = [i, j]) (hoi : ops[i]? = some oi) (hoj : ops[j]? = some oj)
    (h1 : ∀ K' : Act → World → Prop, Shut (∀ a w, ((listed.setIfInBounds i true).getD last true = false → S w) → wpAnyL P md ops Q S last fuel (listed.setIfInBounds i true) a w → K' a w) → if Region.wanted oi (yielded ops a.tmps) = true then Oper.wp P oi a w K' Q else K' (a.put oi.dst undef) w)
    (h2 : ∀ K' : Act → World → Prop, Shut (∀ a w, ((listed.setIfInBounds j true).getD last true = false → S w) → wpAnyL P md ops Q S last fuel (listed.setIfInBounds j true) a w → K' a w) → if Region.wanted oj (yielded ops a.tmps) = true then Oper.wp P oj a w K' Q else K' (a.put oj.dst undef) w) :
    wpAnyL P md ops Q S last (fuel + 1) listed a w := by
  refine ⟨fun h0 => (by rw [hr] at h0; cases h0), fun k hk => ?_⟩
  rw [hr] at hk
  simp only [List.mem_cons, List.not_mem_nil, or_false] at hk
  rcases hk with rfl | rfl
  · exact wpOp_step hoi (fun K' hK => h1 K' (fun a w hS hW => hK a w ⟨hS, hW⟩))
  · exact wpOp_step hoj (fun K' hK => h2 K' (fun a w hS hW => hK a w ⟨hS, hW⟩))
end
/-- Another machine stays. -/
theorem Sm.other {w w' : World} {B g g2 : Nat} {x y y' : Mv} {t : Ms} {st : Int} (h : Sm w B g x t st) (f : Fm w w' g2 y y') (hg : g ≠ g2) (hy : ¬ y.at g) (hx : ∀ b, x.at b → b ≠ g2 ∧ ¬ y.at b) : Sm w' B g x t st :=
  ⟨f.row h.row hg hy, h.own.keepH fun b hb hl => f.blk b hl (hx b hb).1 (hx b hb).2, h.fl, h.lo, h.ne⟩
/-- A machine laid over another. -/
theorem Sm.lay2 {w : World} {B g C : Nat} {x y : Mv} {t t2 : Ms} {st s2 : Int} (h : Sm w B g x t st) (o : OwnM w C y t2.d) (hf : y.fl = t2.fl s2) (hC : B ≤ C) (hg : g < C) : Sm (w.setRow g y.cs) B g y t2 s2 :=
  ⟨setRow_heap w g _ _ 26 _ h.row, (o.keepH fun k hk _ => setRow_other w g k y.cs (by have := (o.lo hk).1; omega)).base hC, hf, h.lo, fun b hb e => by have := (o.lo hb).1; omega⟩
theorem has_ad {d : Md} (h : d.m.length = 256) (a : Int) : d.has a = adB a := by
  unfold Md.has
  cases hb : adB a
  · rfl
  · have := adB_t hb
    rw [decide_eq_true (by omega)]
    rfl
/-- What l7Step leaves. -/
def LsIs (B g : Nat) (x : Mv) (t t2 : Ms) (s2 : Int) (w : World) : Prop :=
  Calls Tryz.prog 29 #[.pointer (some ⟨g, 0, none⟩)] w fun e w' => ∃ x', e = .returned (.tuple #[]) ∧ Sm w' B g x' t2 s2 ∧ Fm w w' g x x' 
set_option maxHeartbeats 8000000 in
theorem ls_odd (B g : Nat) (x : Mv) (t : Ms) (st : Int) (w : World) (h : Sm w B g x t st) (hk : Dk t.d) (hno : adB (nAt t.d.r 7) = false) : LsIs B g x t t 2 w := by
  have GL := hide (show g < w.heap.size from row_lt h.row)
  have CS := hide (copyS_any x t.d w (h.small hk) h.own.nz h.own.rd)
  have DK := hide hk
  obtain ⟨a0, a1⟩ := hk.rw _ (nAt_mem (show 7 < t.d.r.length by have := hk.rl; omega))
  have RW := hide (fun (y : Mv) v (hy : y.small) (r : RdM v y t.d) => readS_any y t.d (nAt t.d.r 7) v hy r)
  rw [has_ad hk.ml] at RW
  have H0 := hide h
  rw [hno] at RW
  obtain ⟨v7, hv7⟩ : ∃ q, nAt t.d.r 7 = q := ⟨_, rfl⟩
  have V7 := hide hv7
  rw [hv7] at RW a0 a1
  generalize t.d.get v7 = gv at RW
  clear hv7 h hk hno
  unfold LsIs
  go_enter Tryz.func29, Tryz.ntmps29
  go_wp2_with (refine wpList_load_row rfl 26 _ rfl g rfl 26 x.cs (0, 0) _ (unhide H0).row Tryz.underlying26 rfl (by kernel_rfl) ?_)
  refine (unhide CS).mono ?_
  rintro e w2 ⟨y, rfl, fy, oy, hb⟩
  have YN := hide (fun b (hb : y.at b) => oy.lo hb)
  have SZ := hide (show w.heap.size ≤ w2.heap.size from hb.size)
  have H2 := hide (((unhide H0).later hb).later (below_new w2 (.cells y.cs 26)))
  have F2 := hide (hb.trans ((below_new w2 (.cells y.cs 26)).mono hb.size))
  have I2 := hide (show Sm (w2.alloc (.cells y.cs 26)) (w.heap.size + 3) w2.heap.size y t st from ⟨heap_alloc_last w2 _, oy.later (below_new w2 _), fy.trans (unhide H0).fl, by by_cases hq : w.heap.size + 3 ≤ w2.heap.size; exact hq; exact absurd (oy.r.form) (fun _ => by
      obtain ⟨gr, rc, er⟩ := sl_formP oy.r (by rw [(unhide DK).rl]; omega)
      have := oy.lo (show y.at gr from .inr (.inl (by rw [er]; rfl)))
      omega), fun b hb => by have := (oy.lo hb).2; omega⟩)
  have OX := hide (fun b (k : x.at b) => (show b ≠ w2.heap.size ∧ ¬ y.at b from ⟨by have := ((unhide H0).own.lo k).2; have := hb.size; omega, fun q => by have := ((unhide H0).own.lo k).2; have := (oy.lo q).1; omega⟩))
  have OG := hide (show g ≠ w2.heap.size ∧ ¬ y.at g from ⟨by have := unhide GL; have := hb.size; omega, fun q => by have := unhide GL; have := (oy.lo q).1; omega⟩)
  obtain ⟨gr, rc, er⟩ := (unhide I2).regs (unhide DK).rl
  have ER := hide er
  clear fy oy hb CS er
  go_wp2_with (refine wpList_store_new rfl 26 _ _ rfl y.cs rfl rfl _ (by kernel_rfl) rfl (Mv.cs_one _) ?_)
  have G2 := hide (show ∃ q, w2.heap.size = q ∧ w.heap.size ≤ q from ⟨_, rfl, unhide SZ⟩)
  obtain ⟨g2, hg2, zg⟩ := unhide G2
  rw [hg2] at I2 OX OG ⊢
  generalize w2.alloc (.cells y.cs 26) = w3 at H2 F2 I2 ⊢
  clear G2 hg2
  have I3 := hide ((unhide I2).later (below_drew (w := w3)))
  have H3 := hide ((unhide H2).later (below_drew (w := w3)))
  have F3 := hide ((unhide F2).trans ((below_drew (w := w3)).mono (unhide F2).size))
  have HS := hide (show w3.drew.heap[g2]? = some (.cells y.cs 26 (0, 0)) ∧ w3.drew.cell? ⟨g2, 1, none⟩ = some (.slice (some ⟨gr, 0, none⟩) 8 rc) ∧ w3.drew.cell? ⟨gr, 7, none⟩ = some (.int .i64 v7) from ⟨(unhide I3).row, (unhide I3).rcell (unhide ER), by rw [((unhide I3).setR (unhide ER) 7 0 (by have := (unhide DK).rl; omega)).2.2.1, unhide V7]⟩)
  have RWC := hide (unhide RW y _ ((unhide I3).small (unhide DK)) (unhide I3).own.rd)
  clear H2 F2 I2 RW
  refine wp_region_last (fun v => v.heap[g2]? = some (.cells y.cs 26 (0, 0)) ∧ v.cell? ⟨g2, 1, none⟩ = some (.slice (some ⟨gr, 0, none⟩) 8 rc) ∧ v.cell? ⟨gr, 7, none⟩ = some (.int .i64 v7)) 10 (by kernel_rfl) ?_
  generalize w3.drew = wd at I3 H3 F3 HS RWC ⊢
  refine wpAnyL_takeS (i := 0) (v := .agg y.cs) rfl (by kernel_rfl) (by kernel_rfl) (by kernel_rfl) (by kernel_rfl) (by kernel_rfl) (fun _ _ _ h => h) (yields_loadQ (by rfl) 26 _ rfl g2 rfl 26 y.cs _ (fun w h => h.1) Tryz.underlying26 rfl (by kernel_rfl)) (unhide HS) ?_
  go_simp
  refine wpAnyL_takeW (i := 1) (v := .pointer (some ⟨g2, 1, none⟩)) rfl (by kernel_rfl) (by kernel_rfl) (by kernel_rfl) (by kernel_rfl) (fun _ _ _ h => h) (Or.inl ⟨by rfl, fun w hc => ?_⟩) (.inl (unhide HS)) ?_
  · clear hc; go_simp
  go_simp
  refine wpAnyL_takeS (i := 2) (v := .slice (some ⟨gr, 0, none⟩) 8 rc) rfl (by kernel_rfl) (by kernel_rfl) (by kernel_rfl) (by kernel_rfl) (by kernel_rfl) (fun _ _ _ h => h) (Or.inl ⟨by rfl, fun w hc => ?_⟩) (unhide HS) ?_
  · obtain ⟨h1, h2, h3⟩ := hc; clear h1; go_simp
  go_simp
  refine wpAnyL_takeW (i := 3) (v := .pointer (some ⟨gr, 7, none⟩)) rfl (by kernel_rfl) (by kernel_rfl) (by kernel_rfl) (by kernel_rfl) (fun _ _ _ h => h) (Or.inl ⟨by rfl, fun w hc => ?_⟩) (.inl (unhide HS)) ?_
  · clear hc; go_simp
  go_simp
  refine wpAnyL_takeS (i := 4) (v := .int .i64 v7) rfl (by kernel_rfl) (by kernel_rfl) (by kernel_rfl) (by kernel_rfl) (by kernel_rfl) (fun _ _ _ h => h) (Or.inl ⟨by rfl, fun w hc => ?_⟩) (unhide HS) ?_
  · obtain ⟨h1, h2, h3⟩ := hc; clear h1; go_simp
  go_simp
  refine wpAnyL_one (i := 5) (by kernel_rfl) rfl (fun K2 hK => ?_)
  go_simp
  refine (unhide RWC).mono ?_
  rintro e w4 ⟨rfl, b4⟩
  have I4 := hide ((unhide I3).later b4)
  have H4 := hide ((unhide H3).later b4)
  have F4 := hide ((unhide F3).trans (b4.mono (unhide F3).size))
  have S4 := hide (show w4.heap[g2]? = some (.cells y.cs 26 (0, 0)) ∧ w4.cell? ⟨g2, 1, none⟩ = some (.slice (some ⟨gr, 0, none⟩) 8 rc) ∧ w4.cell? ⟨gr, 7, none⟩ = some (.int .i64 v7) from ⟨(unhide I4).row, (unhide I4).rcell (unhide ER), by rw [((unhide I4).setR (unhide ER) 7 0 (by have := (unhide DK).rl; omega)).2.2.1, unhide V7]⟩)
  refine hK.out _ _ (fun _ => unhide S4) ?_
  clear hK K2 b4 RWC HS I3 H3 F3
  have HS := hide (unhide S4)
  refine wpAnyL_takeW (i := 6) (v := .tuple #[.int .i64 gv, .bool false]) rfl (by kernel_rfl) (by kernel_rfl) (by kernel_rfl) (by kernel_rfl) (fun _ _ _ h => h) (Or.inl ⟨by rfl, fun w hc => ?_⟩) (.inl (unhide HS)) ?_
  · clear hc; go_simp
  go_simp
  refine wpAnyL_takeW (i := 7) (v := .int .i64 gv) rfl (by kernel_rfl) (by kernel_rfl) (by kernel_rfl) (by kernel_rfl) (fun _ _ _ h => h) (Or.inl ⟨by rfl, fun w hc => ?_⟩) (.inl (unhide HS)) ?_
  · clear hc; go_simp
  go_simp
  refine wpAnyL_takeW (i := 8) (v := .bool false) rfl (by kernel_rfl) (by kernel_rfl) (by kernel_rfl) (by kernel_rfl) (fun _ _ _ h => h) (Or.inl ⟨by rfl, fun w hc => ?_⟩) (.inl (unhide HS)) ?_
  · clear hc; go_simp
  go_simp
  refine wpAnyL_takeW (i := 9) (v := .int .i64 gv) rfl (by kernel_rfl) (by kernel_rfl) (by kernel_rfl) (by kernel_rfl) (fun _ _ _ h => h) (Or.inl ⟨by rfl, fun w hc => ?_⟩) (.inl (unhide HS)) ?_
  · clear hc; go_simp
  go_simp
  refine wpAnyL_one (i := 10) (by kernel_rfl) rfl (fun K2 hK => ?_)
  go_simp
  refine hK.out _ _ (fun h => absurd h (by decide)) ?_
  clear hK K2 HS S4
  refine wpAnyL_done (by kernel_rfl) ?_ _
  have c8 := row_st (unhide H4).row
  have e8 := row_fz (unhide H4).row 8
  obtain ⟨h9, f9⟩ := (unhide H4).setS 2
  have H9 := hide h9
  have F9 := hide ((Fm.of (g := g) (y := x) (unhide F4)).trans f9)
  clear h9 f9
  go_wp2
  refine bodyPost_ret (results_none rfl _ _ _) rfl ?_
  first | exact ⟨_, rfl, unhide H9, unhide F9⟩ | exact ⟨rfl, _, unhide H9, unhide F9⟩
set_option maxHeartbeats 8000000 in
theorem ls_none (B g : Nat) (x : Mv) (t : Ms) (st : Int) (w : World) (h : Sm w B g x t st) (hk : Dk t.d) (hyes : adB (nAt t.d.r 7) = true) (hno : decOk t.d.m (nAt t.d.r 7 / 2) = false) : LsIs B g x t t 2 w := by
  have GL := hide (show g < w.heap.size from row_lt h.row)
  have CS := hide (copyS_any x t.d w (h.small hk) h.own.nz h.own.rd)
  have DK := hide hk
  obtain ⟨a0, a1⟩ := hk.rw _ (nAt_mem (show 7 < t.d.r.length by have := hk.rl; omega))
  have RW := hide (fun (y : Mv) v (hy : y.small) (r : RdM v y t.d) => readS_any y t.d (nAt t.d.r 7) v hy r)
  rw [has_ad hk.ml] at RW
  have H0 := hide h
  rw [hyes] at RW
  obtain ⟨k, hk2⟩ := Int.eq_ofNat_of_zero_le (show 0 ≤ nAt t.d.r 7 / 2 by omega)
  have HQ := hide (quo2 a0 (by omega) hk2)
  have DE := hide (fun ma mc v (r : RdN v ma t.d.m) => decS_any ma 256 mc t.d.m (k : Int) v hk.ml (by omega) r)
  unfold decV at DE
  rw [hk2] at hno
  rw [hno] at DE
  generalize decN t.d.m (k : Int) = dn at DE
  generalize decIs t.d.m (k : Int) = di at DE
  obtain ⟨op, ⟨sm, sr, sx⟩, ⟨dm, dr, dx⟩, n⟩ := di
  unfold Is.v at DE
  simp only at DE
  obtain ⟨v7, hv7⟩ : ∃ q, nAt t.d.r 7 = q := ⟨_, rfl⟩
  have V7 := hide hv7
  rw [hv7] at RW a0 a1 HQ
  generalize t.d.get v7 = gv at RW
  clear hv7 h hk hno hyes hk2
  unfold LsIs
  go_enter Tryz.func29, Tryz.ntmps29
  go_wp2_with (refine wpList_load_row rfl 26 _ rfl g rfl 26 x.cs (0, 0) _ (unhide H0).row Tryz.underlying26 rfl (by kernel_rfl) ?_)
  refine (unhide CS).mono ?_
  rintro e w2 ⟨y, rfl, fy, oy, hb⟩
  have YN := hide (fun b (hb : y.at b) => oy.lo hb)
  have SZ := hide (show w.heap.size ≤ w2.heap.size from hb.size)
  have H2 := hide (((unhide H0).later hb).later (below_new w2 (.cells y.cs 26)))
  have F2 := hide (hb.trans ((below_new w2 (.cells y.cs 26)).mono hb.size))
  have I2 := hide (show Sm (w2.alloc (.cells y.cs 26)) (w.heap.size + 3) w2.heap.size y t st from ⟨heap_alloc_last w2 _, oy.later (below_new w2 _), fy.trans (unhide H0).fl, by by_cases hq : w.heap.size + 3 ≤ w2.heap.size; exact hq; exact absurd (oy.r.form) (fun _ => by
      obtain ⟨gr, rc, er⟩ := sl_formP oy.r (by rw [(unhide DK).rl]; omega)
      have := oy.lo (show y.at gr from .inr (.inl (by rw [er]; rfl)))
      omega), fun b hb => by have := (oy.lo hb).2; omega⟩)
  have OX := hide (fun b (k : x.at b) => (show b ≠ w2.heap.size ∧ ¬ y.at b from ⟨by have := ((unhide H0).own.lo k).2; have := hb.size; omega, fun q => by have := ((unhide H0).own.lo k).2; have := (oy.lo q).1; omega⟩))
  have OG := hide (show g ≠ w2.heap.size ∧ ¬ y.at g from ⟨by have := unhide GL; have := hb.size; omega, fun q => by have := unhide GL; have := (oy.lo q).1; omega⟩)
  obtain ⟨gr, rc, er⟩ := (unhide I2).regs (unhide DK).rl
  have ER := hide er
  clear fy oy hb CS er
  go_wp2_with (refine wpList_store_new rfl 26 _ _ rfl y.cs rfl rfl _ (by kernel_rfl) rfl (Mv.cs_one _) ?_)
  have G2 := hide (show ∃ q, w2.heap.size = q ∧ w.heap.size ≤ q from ⟨_, rfl, unhide SZ⟩)
  obtain ⟨g2, hg2, zg⟩ := unhide G2
  rw [hg2] at I2 OX OG ⊢
  generalize w2.alloc (.cells y.cs 26) = w3 at H2 F2 I2 ⊢
  clear G2 hg2
  have I3 := hide ((unhide I2).later (below_drew (w := w3)))
  have H3 := hide ((unhide H2).later (below_drew (w := w3)))
  have F3 := hide ((unhide F2).trans ((below_drew (w := w3)).mono (unhide F2).size))
  have HS := hide (show w3.drew.heap[g2]? = some (.cells y.cs 26 (0, 0)) ∧ w3.drew.cell? ⟨g2, 1, none⟩ = some (.slice (some ⟨gr, 0, none⟩) 8 rc) ∧ w3.drew.cell? ⟨gr, 7, none⟩ = some (.int .i64 v7) from ⟨(unhide I3).row, (unhide I3).rcell (unhide ER), by rw [((unhide I3).setR (unhide ER) 7 0 (by have := (unhide DK).rl; omega)).2.2.1, unhide V7]⟩)
  have RWC := hide (unhide RW y _ ((unhide I3).small (unhide DK)) (unhide I3).own.rd)
  clear H2 F2 I2 RW
  refine wp_region_last (fun v => v.heap[g2]? = some (.cells y.cs 26 (0, 0)) ∧ v.cell? ⟨g2, 1, none⟩ = some (.slice (some ⟨gr, 0, none⟩) 8 rc) ∧ v.cell? ⟨gr, 7, none⟩ = some (.int .i64 v7)) 10 (by kernel_rfl) ?_
  generalize w3.drew = wd at I3 H3 F3 HS RWC ⊢
  refine wpAnyL_takeS (i := 0) (v := .agg y.cs) rfl (by kernel_rfl) (by kernel_rfl) (by kernel_rfl) (by kernel_rfl) (by kernel_rfl) (fun _ _ _ h => h) (yields_loadQ (by rfl) 26 _ rfl g2 rfl 26 y.cs _ (fun w h => h.1) Tryz.underlying26 rfl (by kernel_rfl)) (unhide HS) ?_
  go_simp
  refine wpAnyL_takeW (i := 1) (v := .pointer (some ⟨g2, 1, none⟩)) rfl (by kernel_rfl) (by kernel_rfl) (by kernel_rfl) (by kernel_rfl) (fun _ _ _ h => h) (Or.inl ⟨by rfl, fun w hc => ?_⟩) (.inl (unhide HS)) ?_
  · clear hc; go_simp
  go_simp
  refine wpAnyL_takeS (i := 2) (v := .slice (some ⟨gr, 0, none⟩) 8 rc) rfl (by kernel_rfl) (by kernel_rfl) (by kernel_rfl) (by kernel_rfl) (by kernel_rfl) (fun _ _ _ h => h) (Or.inl ⟨by rfl, fun w hc => ?_⟩) (unhide HS) ?_
  · obtain ⟨h1, h2, h3⟩ := hc; clear h1; go_simp
  go_simp
  refine wpAnyL_takeW (i := 3) (v := .pointer (some ⟨gr, 7, none⟩)) rfl (by kernel_rfl) (by kernel_rfl) (by kernel_rfl) (by kernel_rfl) (fun _ _ _ h => h) (Or.inl ⟨by rfl, fun w hc => ?_⟩) (.inl (unhide HS)) ?_
  · clear hc; go_simp
  go_simp
  refine wpAnyL_takeS (i := 4) (v := .int .i64 v7) rfl (by kernel_rfl) (by kernel_rfl) (by kernel_rfl) (by kernel_rfl) (by kernel_rfl) (fun _ _ _ h => h) (Or.inl ⟨by rfl, fun w hc => ?_⟩) (unhide HS) ?_
  · obtain ⟨h1, h2, h3⟩ := hc; clear h1; go_simp
  go_simp
  refine wpAnyL_one (i := 5) (by kernel_rfl) rfl (fun K2 hK => ?_)
  go_simp
  refine (unhide RWC).mono ?_
  rintro e w4 ⟨rfl, b4⟩
  have I4 := hide ((unhide I3).later b4)
  have H4 := hide ((unhide H3).later b4)
  have F4 := hide ((unhide F3).trans (b4.mono (unhide F3).size))
  have S4 := hide (show w4.heap[g2]? = some (.cells y.cs 26 (0, 0)) ∧ w4.cell? ⟨g2, 1, none⟩ = some (.slice (some ⟨gr, 0, none⟩) 8 rc) ∧ w4.cell? ⟨gr, 7, none⟩ = some (.int .i64 v7) from ⟨(unhide I4).row, (unhide I4).rcell (unhide ER), by rw [((unhide I4).setR (unhide ER) 7 0 (by have := (unhide DK).rl; omega)).2.2.1, unhide V7]⟩)
  refine hK.out _ _ (fun _ => unhide S4) ?_
  clear hK K2 b4 RWC HS I3 H3 F3
  have HS := hide (unhide S4)
  refine wpAnyL_takeW (i := 6) (v := .tuple #[.int .i64 gv, .bool true]) rfl (by kernel_rfl) (by kernel_rfl) (by kernel_rfl) (by kernel_rfl) (fun _ _ _ h => h) (Or.inl ⟨by rfl, fun w hc => ?_⟩) (.inl (unhide HS)) ?_
  · clear hc; go_simp
  go_simp
  refine wpAnyL_takeW (i := 7) (v := .int .i64 gv) rfl (by kernel_rfl) (by kernel_rfl) (by kernel_rfl) (by kernel_rfl) (fun _ _ _ h => h) (Or.inl ⟨by rfl, fun w hc => ?_⟩) (.inl (unhide HS)) ?_
  · clear hc; go_simp
  go_simp
  refine wpAnyL_takeW (i := 8) (v := .bool true) rfl (by kernel_rfl) (by kernel_rfl) (by kernel_rfl) (by kernel_rfl) (fun _ _ _ h => h) (Or.inl ⟨by rfl, fun w hc => ?_⟩) (.inl (unhide HS)) ?_
  · clear hc; go_simp
  go_simp
  refine wpAnyL_takeW (i := 9) (v := .int .i64 gv) rfl (by kernel_rfl) (by kernel_rfl) (by kernel_rfl) (by kernel_rfl) (fun _ _ _ h => h) (Or.inl ⟨by rfl, fun w hc => ?_⟩) (.inl (unhide HS)) ?_
  · clear hc; go_simp
  go_simp
  refine wpAnyL_one (i := 10) (by kernel_rfl) rfl (fun K2 hK => ?_)
  go_simp
  refine hK.out _ _ (fun h => absurd h (by decide)) ?_
  clear hK K2 HS S4
  refine wpAnyL_done (by kernel_rfl) ?_ _
  have MF := hide (show ∃ ma mc, y.m = ⟨ma, 256, mc⟩ from ⟨y.m.a, y.m.c, by have q := (unhide I4).own.m.len; rw [(unhide DK).ml] at q; rw [q]⟩)
  obtain ⟨ma, mc, em⟩ := unhide MF
  have EM := hide em
  have LB := hide (show B ≤ w.heap.size from Nat.le_of_lt (Nat.lt_of_le_of_lt (unhide H0).lo (unhide GL)))
  have I5 := hide ((unhide I4).later (below_drew (w := w4)))
  have H5 := hide ((unhide H4).later (below_drew (w := w4)))
  have F5 := hide ((unhide F4).trans ((below_drew (w := w4)).mono (unhide F4).size))
  have SS := hide (show ∀ v, Sm v (w.heap.size + 3) g2 y t st → (v.cell? ⟨g2, 0, none⟩ = some (.slice ma 256 mc) ∧ v.cell? ⟨g2, 1, none⟩ = some (.slice (some ⟨gr, 0, none⟩) 8 rc) ∧ v.cell? ⟨gr, 7, none⟩ = some (.int .i64 v7)) from fun v i => ⟨by rw [row_m i.row, em], i.rcell (unhide ER), by rw [(i.setR (unhide ER) 7 0 (by have := (unhide DK).rl; omega)).2.2.1, unhide V7]⟩)
  have HS := hide (unhide SS _ (unhide I5))
  have DEC := hide (fun v (i : Sm v (w.heap.size + 3) g2 y t st) => unhide DE ma mc v (by have q := i.own.rd.m; rw [em] at q; exact q))
  clear I4 H4 F4 em MF DE
  go_wp2_with fail
  refine wp_region_last (fun v => v.cell? ⟨g2, 0, none⟩ = some (.slice ma 256 mc) ∧ v.cell? ⟨g2, 1, none⟩ = some (.slice (some ⟨gr, 0, none⟩) 8 rc) ∧ v.cell? ⟨gr, 7, none⟩ = some (.int .i64 v7)) 15 (by kernel_rfl) ?_
  generalize w4.drew = wd at I5 H5 F5 HS ⊢
  refine wpAnyL_takeW (i := 0) (v := .pointer (some ⟨g2, 0, none⟩)) rfl (by kernel_rfl) (by kernel_rfl) (by kernel_rfl) (by kernel_rfl) (fun _ _ _ h => h) (Or.inl ⟨by rfl, fun w hc => ?_⟩) (.inl (unhide HS)) ?_
  · clear hc; go_simp
  go_simp
  refine wpAnyL_takeS (i := 1) (v := .slice ma 256 mc) rfl (by kernel_rfl) (by kernel_rfl) (by kernel_rfl) (by kernel_rfl) (by kernel_rfl) (fun _ _ _ h => h) (Or.inl ⟨by rfl, fun w hc => ?_⟩) (unhide HS) ?_
  · obtain ⟨h1, h2, h3⟩ := hc; go_simp
  go_simp
  refine wpAnyL_takeW (i := 2) (v := .pointer (some ⟨g2, 1, none⟩)) rfl (by kernel_rfl) (by kernel_rfl) (by kernel_rfl) (by kernel_rfl) (fun _ _ _ h => h) (Or.inl ⟨by rfl, fun w hc => ?_⟩) (.inl (unhide HS)) ?_
  · clear hc; go_simp
  go_simp
  refine wpAnyL_takeS (i := 3) (v := .slice (some ⟨gr, 0, none⟩) 8 rc) rfl (by kernel_rfl) (by kernel_rfl) (by kernel_rfl) (by kernel_rfl) (by kernel_rfl) (fun _ _ _ h => h) (Or.inl ⟨by rfl, fun w hc => ?_⟩) (unhide HS) ?_
  · obtain ⟨h1, h2, h3⟩ := hc; go_simp
  go_simp
  refine wpAnyL_takeW (i := 4) (v := .pointer (some ⟨gr, 7, none⟩)) rfl (by kernel_rfl) (by kernel_rfl) (by kernel_rfl) (by kernel_rfl) (fun _ _ _ h => h) (Or.inl ⟨by rfl, fun w hc => ?_⟩) (.inl (unhide HS)) ?_
  · clear hc; go_simp
  go_simp
  refine wpAnyL_takeS (i := 5) (v := .int .i64 v7) rfl (by kernel_rfl) (by kernel_rfl) (by kernel_rfl) (by kernel_rfl) (by kernel_rfl) (fun _ _ _ h => h) (Or.inl ⟨by rfl, fun w hc => ?_⟩) (unhide HS) ?_
  · obtain ⟨h1, h2, h3⟩ := hc; go_simp
  go_simp
  refine wpAnyL_takeW (i := 6) (v := .int .i64 (k : Int)) rfl (by kernel_rfl) (by kernel_rfl) (by kernel_rfl) (by kernel_rfl) (fun _ _ _ h => h) (Or.inl ⟨by rfl, fun w hc => ?_⟩) (.inl (unhide HS)) ?_
  · clear hc; have hq2 := unhide HQ; go_simp
  go_simp
  refine wpAnyL_two (i := 7) (j := 12) (by kernel_rfl) rfl rfl (fun K2 hK => ?_) (fun K2 hK => ?_)
  · go_simp
    refine (unhide DEC _ (unhide I5)).mono ?_
    rintro e w5 ⟨rfl, b5⟩
    have I6 := hide ((unhide I5).later b5)
    have H6 := hide ((unhide H5).later b5)
    have F6 := hide ((unhide F5).trans (b5.mono (unhide F5).size))
    refine hK.out _ _ (fun _ => unhide SS _ (unhide I6)) ?_
    clear hK K2 b5 HS I5 H5 F5 DEC
    have HS := hide (unhide SS _ (unhide I6))
    refine wpAnyL_takeW (i := 8) (v := .tuple #[.agg #[.int .i64 op, .int .i64 sm, .int .i64 sr, .int .i64 sx, .int .i64 dm, .int .i64 dr, .int .i64 dx, .int .i64 n], .int .i64 dn, .bool false]) rfl (by kernel_rfl) (by kernel_rfl) (by kernel_rfl) (by kernel_rfl) (fun _ _ _ h => h) (Or.inl ⟨by rfl, fun w hc => ?_⟩) (.inl (unhide HS)) ?_
    · clear hc; go_simp
    go_simp
    refine wpAnyL_takeW (i := 9) (v := .agg #[.int .i64 op, .int .i64 sm, .int .i64 sr, .int .i64 sx, .int .i64 dm, .int .i64 dr, .int .i64 dx, .int .i64 n]) rfl (by kernel_rfl) (by kernel_rfl) (by kernel_rfl) (by kernel_rfl) (fun _ _ _ h => h) (Or.inl ⟨by rfl, fun w hc => ?_⟩) (.inl (unhide HS)) ?_
    · clear hc; go_simp
    go_simp
    refine wpAnyL_takeW (i := 10) (v := .int .i64 dn) rfl (by kernel_rfl) (by kernel_rfl) (by kernel_rfl) (by kernel_rfl) (fun _ _ _ h => h) (Or.inl ⟨by rfl, fun w hc => ?_⟩) (.inl (unhide HS)) ?_
    · clear hc; go_simp
    go_simp
    refine wpAnyL_takeW (i := 11) (v := .bool false) rfl (by kernel_rfl) (by kernel_rfl) (by kernel_rfl) (by kernel_rfl) (fun _ _ _ h => h) (Or.inl ⟨by rfl, fun w hc => ?_⟩) (.inl (unhide HS)) ?_
    · clear hc; go_simp
    go_simp
    refine wpAnyL_one (i := 12) (by kernel_rfl) rfl (fun K2 hK => ?_)
    go_simp
    have I7 := hide ((unhide I6).later (below_new w5 (Obj.cells #[.int .i64 0, .int .i64 0, .int .i64 0, .int .i64 0, .int .i64 0, .int .i64 0, .int .i64 0, .int .i64 0] 69)))
    have H7 := hide ((unhide H6).later (below_new w5 (Obj.cells #[.int .i64 0, .int .i64 0, .int .i64 0, .int .i64 0, .int .i64 0, .int .i64 0, .int .i64 0, .int .i64 0] 69)))
    have F7 := hide ((unhide F6).trans ((below_new w5 (Obj.cells #[.int .i64 0, .int .i64 0, .int .i64 0, .int .i64 0, .int .i64 0, .int .i64 0, .int .i64 0, .int .i64 0] 69)).mono (unhide F6).size))
    have R7 := hide (heap_alloc_last w5 (Obj.cells #[.int .i64 0, .int .i64 0, .int .i64 0, .int .i64 0, .int .i64 0, .int .i64 0, .int .i64 0, .int .i64 0] 69))
    have BN := hide (show w5.heap.size ≠ g2 ∧ ¬ y.at w5.heap.size from ⟨by have := row_lt (unhide I6).row; omega, fun q => by have := ((unhide I6).own.lo q).2; omega⟩)
    have BG := hide (show w5.heap.size ≠ g ∧ ¬ x.at w5.heap.size ∧ w.heap.size ≤ w5.heap.size from ⟨by have := row_lt (unhide H6).row; omega, fun q => by have := ((unhide H6).own.lo q).2; omega, (unhide F6).size⟩)
    refine hK.out _ _ (fun _ => unhide SS _ (unhide I7)) ?_
    clear hK K2 HS I6 H6 F6
    have HS := hide (unhide SS _ (unhide I7))
    generalize w5.alloc (Obj.cells #[.int .i64 0, .int .i64 0, .int .i64 0, .int .i64 0, .int .i64 0, .int .i64 0, .int .i64 0, .int .i64 0] 69) = w6 at I7 H7 F7 R7 HS ⊢
    generalize w5.heap.size = ib at R7 BN BG ⊢
    refine wpAnyL_one (i := 13) (by kernel_rfl) rfl (fun K2 hK => ?_)
    rw [if_pos (by rfl)]
    refine wp_store_row 69 _ _ rfl ib #[.int .i64 op, .int .i64 sm, .int .i64 sr, .int .i64 sx, .int .i64 dm, .int .i64 dr, .int .i64 dx, .int .i64 n] rfl rfl 69 _ (unhide R7) (by kernel_rfl) rfl (by simp [Value.oneCell']) ?_
    have I8 := hide ((unhide I7).lay ib #[.int .i64 op, .int .i64 sm, .int .i64 sr, .int .i64 sx, .int .i64 dm, .int .i64 dr, .int .i64 dx, .int .i64 n] (fun e => (unhide BN).1 e.symm) (fun b hb e => (unhide BN).2 (e ▸ hb)))
    have H8 := hide ((unhide H7).lay ib #[.int .i64 op, .int .i64 sm, .int .i64 sr, .int .i64 sx, .int .i64 dm, .int .i64 dr, .int .i64 dx, .int .i64 n] (fun e => (unhide BG).1 e.symm) (fun b hb e => (unhide BG).2.1 (e ▸ hb)))
    have F8 := hide (below_setRow (g := ib) (unhide F7) (unhide BG).2.2 #[.int .i64 op, .int .i64 sm, .int .i64 sr, .int .i64 sx, .int .i64 dm, .int .i64 dr, .int .i64 dx, .int .i64 n])
    have R8 := hide (setRow_heap w6 ib _ #[.int .i64 op, .int .i64 sm, .int .i64 sr, .int .i64 sx, .int .i64 dm, .int .i64 dr, .int .i64 dx, .int .i64 n] 69 _ (unhide R7))
    refine hK.out _ _ (fun _ => unhide SS _ (unhide I8)) ?_
    clear hK K2 HS I7 H7 F7 R7
    have HS := hide (unhide SS _ (unhide I8))
    generalize w6.setRow ib #[.int .i64 op, .int .i64 sm, .int .i64 sr, .int .i64 sx, .int .i64 dm, .int .i64 dr, .int .i64 dx, .int .i64 n] = w7 at I8 H8 F8 R8 HS ⊢
    refine wpAnyL_takeW (i := 14) (v := .int .i64 dn) rfl (by kernel_rfl) (by kernel_rfl) (by kernel_rfl) (by kernel_rfl) (fun _ _ _ h => h) (Or.inl ⟨by rfl, fun w hc => ?_⟩) (.inl (unhide HS)) ?_
    · clear hc; go_simp
    go_simp
    refine wpAnyL_one (i := 15) (by kernel_rfl) rfl (fun K2 hK => ?_)
    go_simp
    refine hK.out _ _ (fun h => absurd h (by decide)) ?_
    clear hK K2 HS SS
    refine wpAnyL_done (by kernel_rfl) ?_ _
    have I7 := hide (unhide I8)
    have H7 := hide (unhide H8)
    have F7 := hide (unhide F8)
    have R7 := hide (unhide R8)
    clear I8 H8 F8 R8
    have c8 := row_st (unhide H7).row
    have e8 := row_fz (unhide H7).row 8
    obtain ⟨h9, f9⟩ := (unhide H7).setS 2
    have H9 := hide h9
    have F9 := hide ((Fm.of (g := g) (y := x) (unhide F7)).trans f9)
    clear h9 f9
    go_wp2
    refine bodyPost_ret (results_none rfl _ _ _) rfl ?_
    first | exact ⟨_, rfl, unhide H9, unhide F9⟩ | exact ⟨rfl, _, unhide H9, unhide F9⟩
  · go_simp
    have I6 := hide ((unhide I5).later (below_new wd (Obj.cells #[.int .i64 0, .int .i64 0, .int .i64 0, .int .i64 0, .int .i64 0, .int .i64 0, .int .i64 0, .int .i64 0] 69)))
    have H6 := hide ((unhide H5).later (below_new wd (Obj.cells #[.int .i64 0, .int .i64 0, .int .i64 0, .int .i64 0, .int .i64 0, .int .i64 0, .int .i64 0, .int .i64 0] 69)))
    have F6 := hide ((unhide F5).trans ((below_new wd (Obj.cells #[.int .i64 0, .int .i64 0, .int .i64 0, .int .i64 0, .int .i64 0, .int .i64 0, .int .i64 0, .int .i64 0] 69)).mono (unhide F5).size))
    have R6 := hide (heap_alloc_last wd (Obj.cells #[.int .i64 0, .int .i64 0, .int .i64 0, .int .i64 0, .int .i64 0, .int .i64 0, .int .i64 0, .int .i64 0] 69))
    have BN := hide (show wd.heap.size ≠ g2 ∧ ¬ y.at wd.heap.size from ⟨by have := row_lt (unhide I5).row; omega, fun q => by have := ((unhide I5).own.lo q).2; omega⟩)
    have BG := hide (show wd.heap.size ≠ g ∧ ¬ x.at wd.heap.size ∧ w.heap.size ≤ wd.heap.size from ⟨by have := row_lt (unhide H5).row; omega, fun q => by have := ((unhide H5).own.lo q).2; omega, (unhide F5).size⟩)
    refine hK.out _ _ (fun _ => unhide SS _ (unhide I6)) ?_
    clear hK K2 HS I5 H5 F5
    have HS := hide (unhide SS _ (unhide I6))
    generalize wd.alloc (Obj.cells #[.int .i64 0, .int .i64 0, .int .i64 0, .int .i64 0, .int .i64 0, .int .i64 0, .int .i64 0, .int .i64 0] 69) = we at I6 H6 F6 R6 HS ⊢
    generalize wd.heap.size = ib at R6 BN BG ⊢
    refine wpAnyL_one (i := 7) (by kernel_rfl) rfl (fun K2 hK => ?_)
    go_simp
    refine (unhide DEC _ (unhide I6)).mono ?_
    rintro e w6 ⟨rfl, b5⟩
    have I7 := hide ((unhide I6).later b5)
    have H7 := hide ((unhide H6).later b5)
    have F7 := hide ((unhide F6).trans (b5.mono (unhide F6).size))
    have R7 := hide (row_lat (unhide R6) b5)
    refine hK.out _ _ (fun _ => unhide SS _ (unhide I7)) ?_
    clear hK K2 b5 HS I6 H6 F6 R6 DEC
    have HS := hide (unhide SS _ (unhide I7))
    refine wpAnyL_takeW (i := 8) (v := .tuple #[.agg #[.int .i64 op, .int .i64 sm, .int .i64 sr, .int .i64 sx, .int .i64 dm, .int .i64 dr, .int .i64 dx, .int .i64 n], .int .i64 dn, .bool false]) rfl (by kernel_rfl) (by kernel_rfl) (by kernel_rfl) (by kernel_rfl) (fun _ _ _ h => h) (Or.inl ⟨by rfl, fun w hc => ?_⟩) (.inl (unhide HS)) ?_
    · clear hc; go_simp
    go_simp
    refine wpAnyL_takeW (i := 9) (v := .agg #[.int .i64 op, .int .i64 sm, .int .i64 sr, .int .i64 sx, .int .i64 dm, .int .i64 dr, .int .i64 dx, .int .i64 n]) rfl (by kernel_rfl) (by kernel_rfl) (by kernel_rfl) (by kernel_rfl) (fun _ _ _ h => h) (Or.inl ⟨by rfl, fun w hc => ?_⟩) (.inl (unhide HS)) ?_
    · clear hc; go_simp
    go_simp
    refine wpAnyL_takeW (i := 10) (v := .int .i64 dn) rfl (by kernel_rfl) (by kernel_rfl) (by kernel_rfl) (by kernel_rfl) (fun _ _ _ h => h) (Or.inl ⟨by rfl, fun w hc => ?_⟩) (.inl (unhide HS)) ?_
    · clear hc; go_simp
    go_simp
    refine wpAnyL_takeW (i := 11) (v := .bool false) rfl (by kernel_rfl) (by kernel_rfl) (by kernel_rfl) (by kernel_rfl) (fun _ _ _ h => h) (Or.inl ⟨by rfl, fun w hc => ?_⟩) (.inl (unhide HS)) ?_
    · clear hc; go_simp
    go_simp
    refine wpAnyL_one (i := 13) (by kernel_rfl) rfl (fun K2 hK => ?_)
    rw [if_pos (by rfl)]
    refine wp_store_row 69 _ _ rfl ib #[.int .i64 op, .int .i64 sm, .int .i64 sr, .int .i64 sx, .int .i64 dm, .int .i64 dr, .int .i64 dx, .int .i64 n] rfl rfl 69 _ (unhide R7) (by kernel_rfl) rfl (by simp [Value.oneCell']) ?_
    have I8 := hide ((unhide I7).lay ib #[.int .i64 op, .int .i64 sm, .int .i64 sr, .int .i64 sx, .int .i64 dm, .int .i64 dr, .int .i64 dx, .int .i64 n] (fun e => (unhide BN).1 e.symm) (fun b hb e => (unhide BN).2 (e ▸ hb)))
    have H8 := hide ((unhide H7).lay ib #[.int .i64 op, .int .i64 sm, .int .i64 sr, .int .i64 sx, .int .i64 dm, .int .i64 dr, .int .i64 dx, .int .i64 n] (fun e => (unhide BG).1 e.symm) (fun b hb e => (unhide BG).2.1 (e ▸ hb)))
    have F8 := hide (below_setRow (g := ib) (unhide F7) (unhide BG).2.2 #[.int .i64 op, .int .i64 sm, .int .i64 sr, .int .i64 sx, .int .i64 dm, .int .i64 dr, .int .i64 dx, .int .i64 n])
    have R8 := hide (setRow_heap w6 ib _ #[.int .i64 op, .int .i64 sm, .int .i64 sr, .int .i64 sx, .int .i64 dm, .int .i64 dr, .int .i64 dx, .int .i64 n] 69 _ (unhide R7))
    refine hK.out _ _ (fun _ => unhide SS _ (unhide I8)) ?_
    clear hK K2 HS I7 H7 F7 R7
    have HS := hide (unhide SS _ (unhide I8))
    generalize w6.setRow ib #[.int .i64 op, .int .i64 sm, .int .i64 sr, .int .i64 sx, .int .i64 dm, .int .i64 dr, .int .i64 dx, .int .i64 n] = w7 at I8 H8 F8 R8 HS ⊢
    refine wpAnyL_takeW (i := 14) (v := .int .i64 dn) rfl (by kernel_rfl) (by kernel_rfl) (by kernel_rfl) (by kernel_rfl) (fun _ _ _ h => h) (Or.inl ⟨by rfl, fun w hc => ?_⟩) (.inl (unhide HS)) ?_
    · clear hc; go_simp
    go_simp
    refine wpAnyL_one (i := 15) (by kernel_rfl) rfl (fun K2 hK => ?_)
    go_simp
    refine hK.out _ _ (fun h => absurd h (by decide)) ?_
    clear hK K2 HS SS
    refine wpAnyL_done (by kernel_rfl) ?_ _
    have I7 := hide (unhide I8)
    have H7 := hide (unhide H8)
    have F7 := hide (unhide F8)
    have R7 := hide (unhide R8)
    clear I8 H8 F8 R8
    have c8 := row_st (unhide H7).row
    have e8 := row_fz (unhide H7).row 8
    obtain ⟨h9, f9⟩ := (unhide H7).setS 2
    have H9 := hide h9
    have F9 := hide ((Fm.of (g := g) (y := x) (unhide F7)).trans f9)
    clear h9 f9
    go_wp2
    refine bodyPost_ret (results_none rfl _ _ _) rfl ?_
    first | exact ⟨_, rfl, unhide H9, unhide F9⟩ | exact ⟨rfl, _, unhide H9, unhide F9⟩
set_option maxHeartbeats 8000000 in
theorem ls_do (B g : Nat) (x : Mv) (t : Ms) (st : Int) (w : World) (h : Sm w B g x t st) (hk : Dk t.d) (hyes : adB (nAt t.d.r 7) = true) (hok : decOk t.d.m (nAt t.d.r 7 / 2) = true) (op sm sr dm dr : Nat) (sx dx n : Int) (hx : t.ins = ⟨op, ⟨sm, sr, sx⟩, ⟨dm, dr, dx⟩, n⟩) (hi : InsN op sm sr dm dr n) :
    LsIs B g x t (if t.nxt.doB op sm sr dm dr n = true then t.nxt.dos op sm sr dm dr n else t) (if t.nxt.doB op sm sr dm dr n = true then doS op st else 2) w := by
  have GL := hide (show g < w.heap.size from row_lt h.row)
  have CS := hide (copyS_any x t.d w (h.small hk) h.own.nz h.own.rd)
  have DK := hide hk
  obtain ⟨a0, a1⟩ := hk.rw _ (nAt_mem (show 7 < t.d.r.length by have := hk.rl; omega))
  have RW := hide (fun (y : Mv) v (hy : y.small) (r : RdM v y t.d) => readS_any y t.d (nAt t.d.r 7) v hy r)
  rw [has_ad hk.ml] at RW
  have H0 := hide h
  rw [hyes] at RW
  obtain ⟨k, hk2⟩ := Int.eq_ofNat_of_zero_le (show 0 ≤ nAt t.d.r 7 / 2 by omega)
  have HQ := hide (quo2 a0 (by omega) hk2)
  have DE := hide (fun ma mc v (r : RdN v ma t.d.m) => decS_any ma 256 mc t.d.m (k : Int) v hk.ml (by omega) r)
  unfold decV at DE
  unfold Ms.ins at hx
  rw [hk2] at hok hx
  have hdi : decIs t.d.m (k : Int) = ⟨op, ⟨sm, sr, sx⟩, ⟨dm, dr, dx⟩, n⟩ := by unfold decIs; rw [if_pos hok]; exact hx
  rw [hok, hdi] at DE
  generalize decN t.d.m (k : Int) = dn at DE
  unfold Is.v at DE
  simp only at DE
  have KN := hide (show Dk t.nxt.d from hk.regS _ _)
  have DO := hide (fun g2 (y : Mv) v (i : Sm v (w.heap.size + 3) g2 y t.nxt st) => ds_any (w.heap.size + 3) g2 op sm sr dm dr sx dx n y t.nxt st v i (unhide KN) hi)
  unfold DsIs DsE at DO
  obtain ⟨v7, hv7⟩ : ∃ q, nAt t.d.r 7 = q := ⟨_, rfl⟩
  have V7 := hide hv7
  rw [hv7] at RW a0 a1 HQ
  generalize t.d.get v7 = gv at RW
  unfold LsIs
  generalize t.nxt.doB op sm sr dm dr n = okd at DO ⊢
  generalize t.nxt.dos op sm sr dm dr n = t2 at DO ⊢
  generalize doS op st = st2 at DO ⊢
  clear hv7 h hk hok hyes hk2 hdi hx KN
  go_enter Tryz.func29, Tryz.ntmps29
  go_wp2_with (refine wpList_load_row rfl 26 _ rfl g rfl 26 x.cs (0, 0) _ (unhide H0).row Tryz.underlying26 rfl (by kernel_rfl) ?_)
  refine (unhide CS).mono ?_
  rintro e w2 ⟨y, rfl, fy, oy, hb⟩
  have YN := hide (fun b (hb : y.at b) => oy.lo hb)
  have SZ := hide (show w.heap.size ≤ w2.heap.size from hb.size)
  have H2 := hide (((unhide H0).later hb).later (below_new w2 (.cells y.cs 26)))
  have F2 := hide (hb.trans ((below_new w2 (.cells y.cs 26)).mono hb.size))
  have I2 := hide (show Sm (w2.alloc (.cells y.cs 26)) (w.heap.size + 3) w2.heap.size y t st from ⟨heap_alloc_last w2 _, oy.later (below_new w2 _), fy.trans (unhide H0).fl, by by_cases hq : w.heap.size + 3 ≤ w2.heap.size; exact hq; exact absurd (oy.r.form) (fun _ => by
      obtain ⟨gr, rc, er⟩ := sl_formP oy.r (by rw [(unhide DK).rl]; omega)
      have := oy.lo (show y.at gr from .inr (.inl (by rw [er]; rfl)))
      omega), fun b hb => by have := (oy.lo hb).2; omega⟩)
  have OX := hide (fun b (k : x.at b) => (show b ≠ w2.heap.size ∧ ¬ y.at b from ⟨by have := ((unhide H0).own.lo k).2; have := hb.size; omega, fun q => by have := ((unhide H0).own.lo k).2; have := (oy.lo q).1; omega⟩))
  have OG := hide (show g ≠ w2.heap.size ∧ ¬ y.at g from ⟨by have := unhide GL; have := hb.size; omega, fun q => by have := unhide GL; have := (oy.lo q).1; omega⟩)
  obtain ⟨gr, rc, er⟩ := (unhide I2).regs (unhide DK).rl
  have ER := hide er
  clear fy oy hb CS er
  go_wp2_with (refine wpList_store_new rfl 26 _ _ rfl y.cs rfl rfl _ (by kernel_rfl) rfl (Mv.cs_one _) ?_)
  have G2 := hide (show ∃ q, w2.heap.size = q ∧ w.heap.size ≤ q from ⟨_, rfl, unhide SZ⟩)
  obtain ⟨g2, hg2, zg⟩ := unhide G2
  rw [hg2] at I2 OX OG ⊢
  generalize w2.alloc (.cells y.cs 26) = w3 at H2 F2 I2 ⊢
  clear G2 hg2
  have I3 := hide ((unhide I2).later (below_drew (w := w3)))
  have H3 := hide ((unhide H2).later (below_drew (w := w3)))
  have F3 := hide ((unhide F2).trans ((below_drew (w := w3)).mono (unhide F2).size))
  have HS := hide (show w3.drew.heap[g2]? = some (.cells y.cs 26 (0, 0)) ∧ w3.drew.cell? ⟨g2, 1, none⟩ = some (.slice (some ⟨gr, 0, none⟩) 8 rc) ∧ w3.drew.cell? ⟨gr, 7, none⟩ = some (.int .i64 v7) from ⟨(unhide I3).row, (unhide I3).rcell (unhide ER), by rw [((unhide I3).setR (unhide ER) 7 0 (by have := (unhide DK).rl; omega)).2.2.1, unhide V7]⟩)
  have RWC := hide (unhide RW y _ ((unhide I3).small (unhide DK)) (unhide I3).own.rd)
  clear H2 F2 I2 RW
  refine wp_region_last (fun v => v.heap[g2]? = some (.cells y.cs 26 (0, 0)) ∧ v.cell? ⟨g2, 1, none⟩ = some (.slice (some ⟨gr, 0, none⟩) 8 rc) ∧ v.cell? ⟨gr, 7, none⟩ = some (.int .i64 v7)) 10 (by kernel_rfl) ?_
  generalize w3.drew = wd at I3 H3 F3 HS RWC ⊢
  refine wpAnyL_takeS (i := 0) (v := .agg y.cs) rfl (by kernel_rfl) (by kernel_rfl) (by kernel_rfl) (by kernel_rfl) (by kernel_rfl) (fun _ _ _ h => h) (yields_loadQ (by rfl) 26 _ rfl g2 rfl 26 y.cs _ (fun w h => h.1) Tryz.underlying26 rfl (by kernel_rfl)) (unhide HS) ?_
  go_simp
  refine wpAnyL_takeW (i := 1) (v := .pointer (some ⟨g2, 1, none⟩)) rfl (by kernel_rfl) (by kernel_rfl) (by kernel_rfl) (by kernel_rfl) (fun _ _ _ h => h) (Or.inl ⟨by rfl, fun w hc => ?_⟩) (.inl (unhide HS)) ?_
  · clear hc; go_simp
  go_simp
  refine wpAnyL_takeS (i := 2) (v := .slice (some ⟨gr, 0, none⟩) 8 rc) rfl (by kernel_rfl) (by kernel_rfl) (by kernel_rfl) (by kernel_rfl) (by kernel_rfl) (fun _ _ _ h => h) (Or.inl ⟨by rfl, fun w hc => ?_⟩) (unhide HS) ?_
  · obtain ⟨h1, h2, h3⟩ := hc; clear h1; go_simp
  go_simp
  refine wpAnyL_takeW (i := 3) (v := .pointer (some ⟨gr, 7, none⟩)) rfl (by kernel_rfl) (by kernel_rfl) (by kernel_rfl) (by kernel_rfl) (fun _ _ _ h => h) (Or.inl ⟨by rfl, fun w hc => ?_⟩) (.inl (unhide HS)) ?_
  · clear hc; go_simp
  go_simp
  refine wpAnyL_takeS (i := 4) (v := .int .i64 v7) rfl (by kernel_rfl) (by kernel_rfl) (by kernel_rfl) (by kernel_rfl) (by kernel_rfl) (fun _ _ _ h => h) (Or.inl ⟨by rfl, fun w hc => ?_⟩) (unhide HS) ?_
  · obtain ⟨h1, h2, h3⟩ := hc; clear h1; go_simp
  go_simp
  refine wpAnyL_one (i := 5) (by kernel_rfl) rfl (fun K2 hK => ?_)
  go_simp
  refine (unhide RWC).mono ?_
  rintro e w4 ⟨rfl, b4⟩
  have I4 := hide ((unhide I3).later b4)
  have H4 := hide ((unhide H3).later b4)
  have F4 := hide ((unhide F3).trans (b4.mono (unhide F3).size))
  have S4 := hide (show w4.heap[g2]? = some (.cells y.cs 26 (0, 0)) ∧ w4.cell? ⟨g2, 1, none⟩ = some (.slice (some ⟨gr, 0, none⟩) 8 rc) ∧ w4.cell? ⟨gr, 7, none⟩ = some (.int .i64 v7) from ⟨(unhide I4).row, (unhide I4).rcell (unhide ER), by rw [((unhide I4).setR (unhide ER) 7 0 (by have := (unhide DK).rl; omega)).2.2.1, unhide V7]⟩)
  refine hK.out _ _ (fun _ => unhide S4) ?_
  clear hK K2 b4 RWC HS I3 H3 F3
  have HS := hide (unhide S4)
  refine wpAnyL_takeW (i := 6) (v := .tuple #[.int .i64 gv, .bool true]) rfl (by kernel_rfl) (by kernel_rfl) (by kernel_rfl) (by kernel_rfl) (fun _ _ _ h => h) (Or.inl ⟨by rfl, fun w hc => ?_⟩) (.inl (unhide HS)) ?_
  · clear hc; go_simp
  go_simp
  refine wpAnyL_takeW (i := 7) (v := .int .i64 gv) rfl (by kernel_rfl) (by kernel_rfl) (by kernel_rfl) (by kernel_rfl) (fun _ _ _ h => h) (Or.inl ⟨by rfl, fun w hc => ?_⟩) (.inl (unhide HS)) ?_
  · clear hc; go_simp
  go_simp
  refine wpAnyL_takeW (i := 8) (v := .bool true) rfl (by kernel_rfl) (by kernel_rfl) (by kernel_rfl) (by kernel_rfl) (fun _ _ _ h => h) (Or.inl ⟨by rfl, fun w hc => ?_⟩) (.inl (unhide HS)) ?_
  · clear hc; go_simp
  go_simp
  refine wpAnyL_takeW (i := 9) (v := .int .i64 gv) rfl (by kernel_rfl) (by kernel_rfl) (by kernel_rfl) (by kernel_rfl) (fun _ _ _ h => h) (Or.inl ⟨by rfl, fun w hc => ?_⟩) (.inl (unhide HS)) ?_
  · clear hc; go_simp
  go_simp
  refine wpAnyL_one (i := 10) (by kernel_rfl) rfl (fun K2 hK => ?_)
  go_simp
  refine hK.out _ _ (fun h => absurd h (by decide)) ?_
  clear hK K2 HS S4
  refine wpAnyL_done (by kernel_rfl) ?_ _
  have DO2 := hide (unhide DO g2 y)
  clear DO
  have DO := hide (unhide DO2)
  clear DO2
  have MF := hide (show ∃ ma mc, y.m = ⟨ma, 256, mc⟩ from ⟨y.m.a, y.m.c, by have q := (unhide I4).own.m.len; rw [(unhide DK).ml] at q; rw [q]⟩)
  obtain ⟨ma, mc, em⟩ := unhide MF
  have EM := hide em
  have LB := hide (show B ≤ w.heap.size from Nat.le_of_lt (Nat.lt_of_le_of_lt (unhide H0).lo (unhide GL)))
  have I5 := hide ((unhide I4).later (below_drew (w := w4)))
  have H5 := hide ((unhide H4).later (below_drew (w := w4)))
  have F5 := hide ((unhide F4).trans ((below_drew (w := w4)).mono (unhide F4).size))
  have SS := hide (show ∀ v, Sm v (w.heap.size + 3) g2 y t st → (v.cell? ⟨g2, 0, none⟩ = some (.slice ma 256 mc) ∧ v.cell? ⟨g2, 1, none⟩ = some (.slice (some ⟨gr, 0, none⟩) 8 rc) ∧ v.cell? ⟨gr, 7, none⟩ = some (.int .i64 v7)) from fun v i => ⟨by rw [row_m i.row, em], i.rcell (unhide ER), by rw [(i.setR (unhide ER) 7 0 (by have := (unhide DK).rl; omega)).2.2.1, unhide V7]⟩)
  have HS := hide (unhide SS _ (unhide I5))
  have DEC := hide (fun v (i : Sm v (w.heap.size + 3) g2 y t st) => unhide DE ma mc v (by have q := i.own.rd.m; rw [em] at q; exact q))
  clear I4 H4 F4 em MF DE
  go_wp2_with fail
  refine wp_region_last (fun v => v.cell? ⟨g2, 0, none⟩ = some (.slice ma 256 mc) ∧ v.cell? ⟨g2, 1, none⟩ = some (.slice (some ⟨gr, 0, none⟩) 8 rc) ∧ v.cell? ⟨gr, 7, none⟩ = some (.int .i64 v7)) 15 (by kernel_rfl) ?_
  generalize w4.drew = wd at I5 H5 F5 HS ⊢
  refine wpAnyL_takeW (i := 0) (v := .pointer (some ⟨g2, 0, none⟩)) rfl (by kernel_rfl) (by kernel_rfl) (by kernel_rfl) (by kernel_rfl) (fun _ _ _ h => h) (Or.inl ⟨by rfl, fun w hc => ?_⟩) (.inl (unhide HS)) ?_
  · clear hc; go_simp
  go_simp
  refine wpAnyL_takeS (i := 1) (v := .slice ma 256 mc) rfl (by kernel_rfl) (by kernel_rfl) (by kernel_rfl) (by kernel_rfl) (by kernel_rfl) (fun _ _ _ h => h) (Or.inl ⟨by rfl, fun w hc => ?_⟩) (unhide HS) ?_
  · obtain ⟨h1, h2, h3⟩ := hc; go_simp
  go_simp
  refine wpAnyL_takeW (i := 2) (v := .pointer (some ⟨g2, 1, none⟩)) rfl (by kernel_rfl) (by kernel_rfl) (by kernel_rfl) (by kernel_rfl) (fun _ _ _ h => h) (Or.inl ⟨by rfl, fun w hc => ?_⟩) (.inl (unhide HS)) ?_
  · clear hc; go_simp
  go_simp
  refine wpAnyL_takeS (i := 3) (v := .slice (some ⟨gr, 0, none⟩) 8 rc) rfl (by kernel_rfl) (by kernel_rfl) (by kernel_rfl) (by kernel_rfl) (by kernel_rfl) (fun _ _ _ h => h) (Or.inl ⟨by rfl, fun w hc => ?_⟩) (unhide HS) ?_
  · obtain ⟨h1, h2, h3⟩ := hc; go_simp
  go_simp
  refine wpAnyL_takeW (i := 4) (v := .pointer (some ⟨gr, 7, none⟩)) rfl (by kernel_rfl) (by kernel_rfl) (by kernel_rfl) (by kernel_rfl) (fun _ _ _ h => h) (Or.inl ⟨by rfl, fun w hc => ?_⟩) (.inl (unhide HS)) ?_
  · clear hc; go_simp
  go_simp
  refine wpAnyL_takeS (i := 5) (v := .int .i64 v7) rfl (by kernel_rfl) (by kernel_rfl) (by kernel_rfl) (by kernel_rfl) (by kernel_rfl) (fun _ _ _ h => h) (Or.inl ⟨by rfl, fun w hc => ?_⟩) (unhide HS) ?_
  · obtain ⟨h1, h2, h3⟩ := hc; go_simp
  go_simp
  refine wpAnyL_takeW (i := 6) (v := .int .i64 (k : Int)) rfl (by kernel_rfl) (by kernel_rfl) (by kernel_rfl) (by kernel_rfl) (fun _ _ _ h => h) (Or.inl ⟨by rfl, fun w hc => ?_⟩) (.inl (unhide HS)) ?_
  · clear hc; have hq2 := unhide HQ; go_simp
  go_simp
  refine wpAnyL_two (i := 7) (j := 12) (by kernel_rfl) rfl rfl (fun K2 hK => ?_) (fun K2 hK => ?_)
  · go_simp
    refine (unhide DEC _ (unhide I5)).mono ?_
    rintro e w5 ⟨rfl, b5⟩
    have I6 := hide ((unhide I5).later b5)
    have H6 := hide ((unhide H5).later b5)
    have F6 := hide ((unhide F5).trans (b5.mono (unhide F5).size))
    refine hK.out _ _ (fun _ => unhide SS _ (unhide I6)) ?_
    clear hK K2 b5 HS I5 H5 F5 DEC
    have HS := hide (unhide SS _ (unhide I6))
    refine wpAnyL_takeW (i := 8) (v := .tuple #[.agg #[.int .i64 (op : Int), .int .i64 (sm : Int), .int .i64 (sr : Int), .int .i64 sx, .int .i64 (dm : Int), .int .i64 (dr : Int), .int .i64 dx, .int .i64 n], .int .i64 dn, .bool true]) rfl (by kernel_rfl) (by kernel_rfl) (by kernel_rfl) (by kernel_rfl) (fun _ _ _ h => h) (Or.inl ⟨by rfl, fun w hc => ?_⟩) (.inl (unhide HS)) ?_
    · clear hc; go_simp
    go_simp
    refine wpAnyL_takeW (i := 9) (v := .agg #[.int .i64 (op : Int), .int .i64 (sm : Int), .int .i64 (sr : Int), .int .i64 sx, .int .i64 (dm : Int), .int .i64 (dr : Int), .int .i64 dx, .int .i64 n]) rfl (by kernel_rfl) (by kernel_rfl) (by kernel_rfl) (by kernel_rfl) (fun _ _ _ h => h) (Or.inl ⟨by rfl, fun w hc => ?_⟩) (.inl (unhide HS)) ?_
    · clear hc; go_simp
    go_simp
    refine wpAnyL_takeW (i := 10) (v := .int .i64 dn) rfl (by kernel_rfl) (by kernel_rfl) (by kernel_rfl) (by kernel_rfl) (fun _ _ _ h => h) (Or.inl ⟨by rfl, fun w hc => ?_⟩) (.inl (unhide HS)) ?_
    · clear hc; go_simp
    go_simp
    refine wpAnyL_takeW (i := 11) (v := .bool true) rfl (by kernel_rfl) (by kernel_rfl) (by kernel_rfl) (by kernel_rfl) (fun _ _ _ h => h) (Or.inl ⟨by rfl, fun w hc => ?_⟩) (.inl (unhide HS)) ?_
    · clear hc; go_simp
    go_simp
    refine wpAnyL_one (i := 12) (by kernel_rfl) rfl (fun K2 hK => ?_)
    go_simp
    have I7 := hide ((unhide I6).later (below_new w5 (Obj.cells #[.int .i64 0, .int .i64 0, .int .i64 0, .int .i64 0, .int .i64 0, .int .i64 0, .int .i64 0, .int .i64 0] 69)))
    have H7 := hide ((unhide H6).later (below_new w5 (Obj.cells #[.int .i64 0, .int .i64 0, .int .i64 0, .int .i64 0, .int .i64 0, .int .i64 0, .int .i64 0, .int .i64 0] 69)))
    have F7 := hide ((unhide F6).trans ((below_new w5 (Obj.cells #[.int .i64 0, .int .i64 0, .int .i64 0, .int .i64 0, .int .i64 0, .int .i64 0, .int .i64 0, .int .i64 0] 69)).mono (unhide F6).size))
    have R7 := hide (heap_alloc_last w5 (Obj.cells #[.int .i64 0, .int .i64 0, .int .i64 0, .int .i64 0, .int .i64 0, .int .i64 0, .int .i64 0, .int .i64 0] 69))
    have BN := hide (show w5.heap.size ≠ g2 ∧ ¬ y.at w5.heap.size from ⟨by have := row_lt (unhide I6).row; omega, fun q => by have := ((unhide I6).own.lo q).2; omega⟩)
    have BG := hide (show w5.heap.size ≠ g ∧ ¬ x.at w5.heap.size ∧ w.heap.size ≤ w5.heap.size from ⟨by have := row_lt (unhide H6).row; omega, fun q => by have := ((unhide H6).own.lo q).2; omega, (unhide F6).size⟩)
    refine hK.out _ _ (fun _ => unhide SS _ (unhide I7)) ?_
    clear hK K2 HS I6 H6 F6
    have HS := hide (unhide SS _ (unhide I7))
    generalize w5.alloc (Obj.cells #[.int .i64 0, .int .i64 0, .int .i64 0, .int .i64 0, .int .i64 0, .int .i64 0, .int .i64 0, .int .i64 0] 69) = w6 at I7 H7 F7 R7 HS ⊢
    generalize w5.heap.size = ib at R7 BN BG ⊢
    refine wpAnyL_one (i := 13) (by kernel_rfl) rfl (fun K2 hK => ?_)
    rw [if_pos (by rfl)]
    refine wp_store_row 69 _ _ rfl ib #[.int .i64 (op : Int), .int .i64 (sm : Int), .int .i64 (sr : Int), .int .i64 sx, .int .i64 (dm : Int), .int .i64 (dr : Int), .int .i64 dx, .int .i64 n] rfl rfl 69 _ (unhide R7) (by kernel_rfl) rfl (by simp [Value.oneCell']) ?_
    have I8 := hide ((unhide I7).lay ib #[.int .i64 (op : Int), .int .i64 (sm : Int), .int .i64 (sr : Int), .int .i64 sx, .int .i64 (dm : Int), .int .i64 (dr : Int), .int .i64 dx, .int .i64 n] (fun e => (unhide BN).1 e.symm) (fun b hb e => (unhide BN).2 (e ▸ hb)))
    have H8 := hide ((unhide H7).lay ib #[.int .i64 (op : Int), .int .i64 (sm : Int), .int .i64 (sr : Int), .int .i64 sx, .int .i64 (dm : Int), .int .i64 (dr : Int), .int .i64 dx, .int .i64 n] (fun e => (unhide BG).1 e.symm) (fun b hb e => (unhide BG).2.1 (e ▸ hb)))
    have F8 := hide (below_setRow (g := ib) (unhide F7) (unhide BG).2.2 #[.int .i64 (op : Int), .int .i64 (sm : Int), .int .i64 (sr : Int), .int .i64 sx, .int .i64 (dm : Int), .int .i64 (dr : Int), .int .i64 dx, .int .i64 n])
    have R8 := hide (setRow_heap w6 ib _ #[.int .i64 (op : Int), .int .i64 (sm : Int), .int .i64 (sr : Int), .int .i64 sx, .int .i64 (dm : Int), .int .i64 (dr : Int), .int .i64 dx, .int .i64 n] 69 _ (unhide R7))
    refine hK.out _ _ (fun _ => unhide SS _ (unhide I8)) ?_
    clear hK K2 HS I7 H7 F7 R7
    have HS := hide (unhide SS _ (unhide I8))
    generalize w6.setRow ib #[.int .i64 (op : Int), .int .i64 (sm : Int), .int .i64 (sr : Int), .int .i64 sx, .int .i64 (dm : Int), .int .i64 (dr : Int), .int .i64 dx, .int .i64 n] = w7 at I8 H8 F8 R8 HS ⊢
    refine wpAnyL_takeW (i := 14) (v := .int .i64 dn) rfl (by kernel_rfl) (by kernel_rfl) (by kernel_rfl) (by kernel_rfl) (fun _ _ _ h => h) (Or.inl ⟨by rfl, fun w hc => ?_⟩) (.inl (unhide HS)) ?_
    · clear hc; go_simp
    go_simp
    refine wpAnyL_one (i := 15) (by kernel_rfl) rfl (fun K2 hK => ?_)
    go_simp
    refine hK.out _ _ (fun h => absurd h (by decide)) ?_
    clear hK K2 HS SS
    refine wpAnyL_done (by kernel_rfl) ?_ _
    have I7 := hide (unhide I8)
    have H7 := hide (unhide H8)
    have F7 := hide (unhide F8)
    have R7 := hide (unhide R8)
    clear I8 H8 F8 R8
    have WR := hide (fun v => wrapS_any (v7 + 2) v)
    have HW := hide (show IntKind.i64.wrap (v7 + 2) = v7 + 2 by rw [IntKind.wrap_i64]; omega)
    have I8 := hide ((unhide I7).later (below_drew (w := w7)))
    have H8 := hide ((unhide H7).later (below_drew (w := w7)))
    have F8 := hide ((unhide F7).trans ((below_drew (w := w7)).mono (unhide F7).size))
    have R8 := hide (row_lat (unhide R7) (below_drew (w := w7)))
    have c1 := (unhide I8).rcell (unhide ER)
    obtain ⟨i9, f9, c2, c3⟩ := (unhide I8).setR (unhide ER) 7 ((v7 + 2) % 65536) (by have := (unhide DK).rl; omega)
    rw [unhide V7] at c2
    have I9 := hide (show Sm (w7.drew.setCell ⟨gr, 7, none⟩ (.int .i64 ((v7 + 2) % 65536))) (w.heap.size + 3) g2 y t.nxt st from by unfold Ms.nxt; rw [unhide V7]; exact i9)
    have H9 := hide ((unhide H8).other f9 (unhide OG).1 (unhide OG).2 (unhide OX))
    have F9 := hide ((unhide F8).trans (f9.bel (unhide F8).size zg (fun b k => by have := (unhide YN b k).1; omega)))
    have R9 := hide (f9.row (unhide R8) (unhide BN).1 (unhide BN).2)
    clear i9 f9 I7 H7 F7 R7
    generalize (v7 + 2) % 65536 = x7 at WR c2 c3 I9 H9 F9 R9
    go_wp2_with fail
    refine wp_region_last (fun v => v = w7.drew) 9 (by kernel_rfl) ?_
    generalize w7.drew = wf at I8 H8 F8 R8 c1 c2 c3 I9 H9 F9 R9 ⊢
    refine wpAnyL_takeW (i := 0) (v := .pointer (some ⟨g2, 1, none⟩)) rfl (by kernel_rfl) (by kernel_rfl) (by kernel_rfl) (by kernel_rfl) (fun _ _ _ h => h) (Or.inl ⟨by rfl, fun w hc => ?_⟩) (.inl rfl) ?_
    · clear hc; go_simp
    go_simp
    refine wpAnyL_takeS (i := 1) (v := .slice (some ⟨gr, 0, none⟩) 8 rc) rfl (by kernel_rfl) (by kernel_rfl) (by kernel_rfl) (by kernel_rfl) (by kernel_rfl) (fun _ _ _ h => h) (Or.inl ⟨by rfl, fun w hc => ?_⟩) (rfl) ?_
    · rw [hc]; clear hc; go_simp
    go_simp
    refine wpAnyL_takeW (i := 2) (v := .pointer (some ⟨g2, 1, none⟩)) rfl (by kernel_rfl) (by kernel_rfl) (by kernel_rfl) (by kernel_rfl) (fun _ _ _ h => h) (Or.inl ⟨by rfl, fun w hc => ?_⟩) (.inl rfl) ?_
    · clear hc; go_simp
    go_simp
    refine wpAnyL_takeS (i := 3) (v := .slice (some ⟨gr, 0, none⟩) 8 rc) rfl (by kernel_rfl) (by kernel_rfl) (by kernel_rfl) (by kernel_rfl) (by kernel_rfl) (fun _ _ _ h => h) (Or.inl ⟨by rfl, fun w hc => ?_⟩) (rfl) ?_
    · rw [hc]; clear hc; go_simp
    go_simp
    refine wpAnyL_takeW (i := 4) (v := .pointer (some ⟨gr, 7, none⟩)) rfl (by kernel_rfl) (by kernel_rfl) (by kernel_rfl) (by kernel_rfl) (fun _ _ _ h => h) (Or.inl ⟨by rfl, fun w hc => ?_⟩) (.inl rfl) ?_
    · clear hc; go_simp
    go_simp
    refine wpAnyL_takeS (i := 5) (v := .int .i64 v7) rfl (by kernel_rfl) (by kernel_rfl) (by kernel_rfl) (by kernel_rfl) (by kernel_rfl) (fun _ _ _ h => h) (Or.inl ⟨by rfl, fun w hc => ?_⟩) (rfl) ?_
    · rw [hc]; clear hc; go_simp
    go_simp
    refine wpAnyL_takeW (i := 6) (v := .int .i64 (v7 + 2)) rfl (by kernel_rfl) (by kernel_rfl) (by kernel_rfl) (by kernel_rfl) (fun _ _ _ h => h) (Or.inl ⟨by rfl, fun w hc => ?_⟩) (.inl rfl) ?_
    · clear hc; have hw := unhide HW; go_simp
    go_simp
    refine wpAnyL_one (i := 7) (by kernel_rfl) rfl (fun K2 hK => ?_)
    go_simp
    refine (unhide WR _).mono ?_
    rintro e w9 ⟨rfl, hw9⟩
    rw [hw9]
    clear hw9 w9
    refine hK.out _ _ (fun _ => rfl) ?_
    clear hK K2
    refine wpAnyL_takeW (i := 8) (v := .pointer (some ⟨gr, 7, none⟩)) rfl (by kernel_rfl) (by kernel_rfl) (by kernel_rfl) (by kernel_rfl) (fun _ _ _ h => h) (Or.inl ⟨by rfl, fun w hc => ?_⟩) (.inl rfl) ?_
    · clear hc; go_simp
    go_simp
    refine wpAnyL_one (i := 9) (by kernel_rfl) rfl (fun K2 hK => ?_)
    go_simp
    refine hK.out _ _ (fun h => absurd h (by decide)) ?_
    clear hK K2
    refine wpAnyL_done (by kernel_rfl) ?_ _
    generalize wf.setCell ⟨gr, 7, none⟩ (.int .i64 x7) = wg at I9 H9 F9 R9 ⊢
    clear I8 H8 F8 R8 c1 c2 c3 WR HW
    have DD := hide (unhide DO _ (unhide I9))
    clear DO
    go_wp2_with (refine wpList_load_row rfl 69 _ rfl ib rfl 69 #[.int .i64 (op : Int), .int .i64 (sm : Int), .int .i64 (sr : Int), .int .i64 sx, .int .i64 (dm : Int), .int .i64 (dr : Int), .int .i64 dx, .int .i64 n] (0, 0) _ (unhide R9) Tryz.underlying69 rfl (by kernel_rfl) ?_)
    refine (unhide DD).mono ?_
    rintro e wh ⟨y2, rfl, ah⟩
    have H10 := hide ((unhide H9).other ah.fm (unhide OG).1 (unhide OG).2 (unhide OX))
    have F10 := hide ((unhide F9).trans (ah.fm.bel (unhide F9).size zg (fun b k => by have := (unhide YN b k).1; omega)))
    cases okd
    · clear ah DD I9 H9 F9 R9
      simp only [if_neg (show ¬ (false = true) by decide)]
      have c8 := row_st (unhide H10).row
      have e8 := row_fz (unhide H10).row 8
      obtain ⟨h9, f9⟩ := (unhide H10).setS 2
      have H9 := hide h9
      have F9 := hide ((Fm.of (g := g) (y := x) (unhide F10)).trans f9)
      clear h9 f9
      go_wp2
      refine bodyPost_ret (results_none rfl _ _ _) rfl ?_
      first | exact ⟨_, rfl, unhide H9, unhide F9⟩ | exact ⟨rfl, _, unhide H9, unhide F9⟩
    · have I10 := hide (ah.yes (by trivial))
      have c2' := (unhide I10).row
      have C2 := hide c2'
      have H11 := hide ((unhide H10).lay2 (unhide I10).own (unhide I10).fl (by have := unhide LB; omega) (by have := unhide GL; omega))
      have F11 := hide (Fm.over (g := g) (y := x) (unhide F10) (unhide I10).own (by omega) y2.cs)
      have RG := hide (unhide H10).row
      clear ah DD I9 H9 F9 R9 I10 H10 F10 c2'
      go_wp2_with (first | (refine wpList_load_row rfl 26 _ rfl g2 rfl 26 y2.cs (0, 0) _ (unhide C2) Tryz.underlying26 rfl (by kernel_rfl) ?_) | (refine wpList_store_row rfl 26 _ _ rfl g y2.cs rfl rfl 26 x.cs (unhide RG) (by kernel_rfl) rfl (Mv.cs_one _) ?_))
      go_end0
      first | exact ⟨y2, rfl, unhide H11, unhide F11⟩ | exact ⟨rfl, y2, unhide H11, unhide F11⟩
  · go_simp
    have I6 := hide ((unhide I5).later (below_new wd (Obj.cells #[.int .i64 0, .int .i64 0, .int .i64 0, .int .i64 0, .int .i64 0, .int .i64 0, .int .i64 0, .int .i64 0] 69)))
    have H6 := hide ((unhide H5).later (below_new wd (Obj.cells #[.int .i64 0, .int .i64 0, .int .i64 0, .int .i64 0, .int .i64 0, .int .i64 0, .int .i64 0, .int .i64 0] 69)))
    have F6 := hide ((unhide F5).trans ((below_new wd (Obj.cells #[.int .i64 0, .int .i64 0, .int .i64 0, .int .i64 0, .int .i64 0, .int .i64 0, .int .i64 0, .int .i64 0] 69)).mono (unhide F5).size))
    have R6 := hide (heap_alloc_last wd (Obj.cells #[.int .i64 0, .int .i64 0, .int .i64 0, .int .i64 0, .int .i64 0, .int .i64 0, .int .i64 0, .int .i64 0] 69))
    have BN := hide (show wd.heap.size ≠ g2 ∧ ¬ y.at wd.heap.size from ⟨by have := row_lt (unhide I5).row; omega, fun q => by have := ((unhide I5).own.lo q).2; omega⟩)
    have BG := hide (show wd.heap.size ≠ g ∧ ¬ x.at wd.heap.size ∧ w.heap.size ≤ wd.heap.size from ⟨by have := row_lt (unhide H5).row; omega, fun q => by have := ((unhide H5).own.lo q).2; omega, (unhide F5).size⟩)
    refine hK.out _ _ (fun _ => unhide SS _ (unhide I6)) ?_
    clear hK K2 HS I5 H5 F5
    have HS := hide (unhide SS _ (unhide I6))
    generalize wd.alloc (Obj.cells #[.int .i64 0, .int .i64 0, .int .i64 0, .int .i64 0, .int .i64 0, .int .i64 0, .int .i64 0, .int .i64 0] 69) = we at I6 H6 F6 R6 HS ⊢
    generalize wd.heap.size = ib at R6 BN BG ⊢
    refine wpAnyL_one (i := 7) (by kernel_rfl) rfl (fun K2 hK => ?_)
    go_simp
    refine (unhide DEC _ (unhide I6)).mono ?_
    rintro e w6 ⟨rfl, b5⟩
    have I7 := hide ((unhide I6).later b5)
    have H7 := hide ((unhide H6).later b5)
    have F7 := hide ((unhide F6).trans (b5.mono (unhide F6).size))
    have R7 := hide (row_lat (unhide R6) b5)
    refine hK.out _ _ (fun _ => unhide SS _ (unhide I7)) ?_
    clear hK K2 b5 HS I6 H6 F6 R6 DEC
    have HS := hide (unhide SS _ (unhide I7))
    refine wpAnyL_takeW (i := 8) (v := .tuple #[.agg #[.int .i64 (op : Int), .int .i64 (sm : Int), .int .i64 (sr : Int), .int .i64 sx, .int .i64 (dm : Int), .int .i64 (dr : Int), .int .i64 dx, .int .i64 n], .int .i64 dn, .bool true]) rfl (by kernel_rfl) (by kernel_rfl) (by kernel_rfl) (by kernel_rfl) (fun _ _ _ h => h) (Or.inl ⟨by rfl, fun w hc => ?_⟩) (.inl (unhide HS)) ?_
    · clear hc; go_simp
    go_simp
    refine wpAnyL_takeW (i := 9) (v := .agg #[.int .i64 (op : Int), .int .i64 (sm : Int), .int .i64 (sr : Int), .int .i64 sx, .int .i64 (dm : Int), .int .i64 (dr : Int), .int .i64 dx, .int .i64 n]) rfl (by kernel_rfl) (by kernel_rfl) (by kernel_rfl) (by kernel_rfl) (fun _ _ _ h => h) (Or.inl ⟨by rfl, fun w hc => ?_⟩) (.inl (unhide HS)) ?_
    · clear hc; go_simp
    go_simp
    refine wpAnyL_takeW (i := 10) (v := .int .i64 dn) rfl (by kernel_rfl) (by kernel_rfl) (by kernel_rfl) (by kernel_rfl) (fun _ _ _ h => h) (Or.inl ⟨by rfl, fun w hc => ?_⟩) (.inl (unhide HS)) ?_
    · clear hc; go_simp
    go_simp
    refine wpAnyL_takeW (i := 11) (v := .bool true) rfl (by kernel_rfl) (by kernel_rfl) (by kernel_rfl) (by kernel_rfl) (fun _ _ _ h => h) (Or.inl ⟨by rfl, fun w hc => ?_⟩) (.inl (unhide HS)) ?_
    · clear hc; go_simp
    go_simp
    refine wpAnyL_one (i := 13) (by kernel_rfl) rfl (fun K2 hK => ?_)
    rw [if_pos (by rfl)]
    refine wp_store_row 69 _ _ rfl ib #[.int .i64 (op : Int), .int .i64 (sm : Int), .int .i64 (sr : Int), .int .i64 sx, .int .i64 (dm : Int), .int .i64 (dr : Int), .int .i64 dx, .int .i64 n] rfl rfl 69 _ (unhide R7) (by kernel_rfl) rfl (by simp [Value.oneCell']) ?_
    have I8 := hide ((unhide I7).lay ib #[.int .i64 (op : Int), .int .i64 (sm : Int), .int .i64 (sr : Int), .int .i64 sx, .int .i64 (dm : Int), .int .i64 (dr : Int), .int .i64 dx, .int .i64 n] (fun e => (unhide BN).1 e.symm) (fun b hb e => (unhide BN).2 (e ▸ hb)))
    have H8 := hide ((unhide H7).lay ib #[.int .i64 (op : Int), .int .i64 (sm : Int), .int .i64 (sr : Int), .int .i64 sx, .int .i64 (dm : Int), .int .i64 (dr : Int), .int .i64 dx, .int .i64 n] (fun e => (unhide BG).1 e.symm) (fun b hb e => (unhide BG).2.1 (e ▸ hb)))
    have F8 := hide (below_setRow (g := ib) (unhide F7) (unhide BG).2.2 #[.int .i64 (op : Int), .int .i64 (sm : Int), .int .i64 (sr : Int), .int .i64 sx, .int .i64 (dm : Int), .int .i64 (dr : Int), .int .i64 dx, .int .i64 n])
    have R8 := hide (setRow_heap w6 ib _ #[.int .i64 (op : Int), .int .i64 (sm : Int), .int .i64 (sr : Int), .int .i64 sx, .int .i64 (dm : Int), .int .i64 (dr : Int), .int .i64 dx, .int .i64 n] 69 _ (unhide R7))
    refine hK.out _ _ (fun _ => unhide SS _ (unhide I8)) ?_
    clear hK K2 HS I7 H7 F7 R7
    have HS := hide (unhide SS _ (unhide I8))
    generalize w6.setRow ib #[.int .i64 (op : Int), .int .i64 (sm : Int), .int .i64 (sr : Int), .int .i64 sx, .int .i64 (dm : Int), .int .i64 (dr : Int), .int .i64 dx, .int .i64 n] = w7 at I8 H8 F8 R8 HS ⊢
    refine wpAnyL_takeW (i := 14) (v := .int .i64 dn) rfl (by kernel_rfl) (by kernel_rfl) (by kernel_rfl) (by kernel_rfl) (fun _ _ _ h => h) (Or.inl ⟨by rfl, fun w hc => ?_⟩) (.inl (unhide HS)) ?_
    · clear hc; go_simp
    go_simp
    refine wpAnyL_one (i := 15) (by kernel_rfl) rfl (fun K2 hK => ?_)
    go_simp
    refine hK.out _ _ (fun h => absurd h (by decide)) ?_
    clear hK K2 HS SS
    refine wpAnyL_done (by kernel_rfl) ?_ _
    have I7 := hide (unhide I8)
    have H7 := hide (unhide H8)
    have F7 := hide (unhide F8)
    have R7 := hide (unhide R8)
    clear I8 H8 F8 R8
    have WR := hide (fun v => wrapS_any (v7 + 2) v)
    have HW := hide (show IntKind.i64.wrap (v7 + 2) = v7 + 2 by rw [IntKind.wrap_i64]; omega)
    have I8 := hide ((unhide I7).later (below_drew (w := w7)))
    have H8 := hide ((unhide H7).later (below_drew (w := w7)))
    have F8 := hide ((unhide F7).trans ((below_drew (w := w7)).mono (unhide F7).size))
    have R8 := hide (row_lat (unhide R7) (below_drew (w := w7)))
    have c1 := (unhide I8).rcell (unhide ER)
    obtain ⟨i9, f9, c2, c3⟩ := (unhide I8).setR (unhide ER) 7 ((v7 + 2) % 65536) (by have := (unhide DK).rl; omega)
    rw [unhide V7] at c2
    have I9 := hide (show Sm (w7.drew.setCell ⟨gr, 7, none⟩ (.int .i64 ((v7 + 2) % 65536))) (w.heap.size + 3) g2 y t.nxt st from by unfold Ms.nxt; rw [unhide V7]; exact i9)
    have H9 := hide ((unhide H8).other f9 (unhide OG).1 (unhide OG).2 (unhide OX))
    have F9 := hide ((unhide F8).trans (f9.bel (unhide F8).size zg (fun b k => by have := (unhide YN b k).1; omega)))
    have R9 := hide (f9.row (unhide R8) (unhide BN).1 (unhide BN).2)
    clear i9 f9 I7 H7 F7 R7
    generalize (v7 + 2) % 65536 = x7 at WR c2 c3 I9 H9 F9 R9
    go_wp2_with fail
    refine wp_region_last (fun v => v = w7.drew) 9 (by kernel_rfl) ?_
    generalize w7.drew = wf at I8 H8 F8 R8 c1 c2 c3 I9 H9 F9 R9 ⊢
    refine wpAnyL_takeW (i := 0) (v := .pointer (some ⟨g2, 1, none⟩)) rfl (by kernel_rfl) (by kernel_rfl) (by kernel_rfl) (by kernel_rfl) (fun _ _ _ h => h) (Or.inl ⟨by rfl, fun w hc => ?_⟩) (.inl rfl) ?_
    · clear hc; go_simp
    go_simp
    refine wpAnyL_takeS (i := 1) (v := .slice (some ⟨gr, 0, none⟩) 8 rc) rfl (by kernel_rfl) (by kernel_rfl) (by kernel_rfl) (by kernel_rfl) (by kernel_rfl) (fun _ _ _ h => h) (Or.inl ⟨by rfl, fun w hc => ?_⟩) (rfl) ?_
    · rw [hc]; clear hc; go_simp
    go_simp
    refine wpAnyL_takeW (i := 2) (v := .pointer (some ⟨g2, 1, none⟩)) rfl (by kernel_rfl) (by kernel_rfl) (by kernel_rfl) (by kernel_rfl) (fun _ _ _ h => h) (Or.inl ⟨by rfl, fun w hc => ?_⟩) (.inl rfl) ?_
    · clear hc; go_simp
    go_simp
    refine wpAnyL_takeS (i := 3) (v := .slice (some ⟨gr, 0, none⟩) 8 rc) rfl (by kernel_rfl) (by kernel_rfl) (by kernel_rfl) (by kernel_rfl) (by kernel_rfl) (fun _ _ _ h => h) (Or.inl ⟨by rfl, fun w hc => ?_⟩) (rfl) ?_
    · rw [hc]; clear hc; go_simp
    go_simp
    refine wpAnyL_takeW (i := 4) (v := .pointer (some ⟨gr, 7, none⟩)) rfl (by kernel_rfl) (by kernel_rfl) (by kernel_rfl) (by kernel_rfl) (fun _ _ _ h => h) (Or.inl ⟨by rfl, fun w hc => ?_⟩) (.inl rfl) ?_
    · clear hc; go_simp
    go_simp
    refine wpAnyL_takeS (i := 5) (v := .int .i64 v7) rfl (by kernel_rfl) (by kernel_rfl) (by kernel_rfl) (by kernel_rfl) (by kernel_rfl) (fun _ _ _ h => h) (Or.inl ⟨by rfl, fun w hc => ?_⟩) (rfl) ?_
    · rw [hc]; clear hc; go_simp
    go_simp
    refine wpAnyL_takeW (i := 6) (v := .int .i64 (v7 + 2)) rfl (by kernel_rfl) (by kernel_rfl) (by kernel_rfl) (by kernel_rfl) (fun _ _ _ h => h) (Or.inl ⟨by rfl, fun w hc => ?_⟩) (.inl rfl) ?_
    · clear hc; have hw := unhide HW; go_simp
    go_simp
    refine wpAnyL_one (i := 7) (by kernel_rfl) rfl (fun K2 hK => ?_)
    go_simp
    refine (unhide WR _).mono ?_
    rintro e w9 ⟨rfl, hw9⟩
    rw [hw9]
    clear hw9 w9
    refine hK.out _ _ (fun _ => rfl) ?_
    clear hK K2
    refine wpAnyL_takeW (i := 8) (v := .pointer (some ⟨gr, 7, none⟩)) rfl (by kernel_rfl) (by kernel_rfl) (by kernel_rfl) (by kernel_rfl) (fun _ _ _ h => h) (Or.inl ⟨by rfl, fun w hc => ?_⟩) (.inl rfl) ?_
    · clear hc; go_simp
    go_simp
    refine wpAnyL_one (i := 9) (by kernel_rfl) rfl (fun K2 hK => ?_)
    go_simp
    refine hK.out _ _ (fun h => absurd h (by decide)) ?_
    clear hK K2
    refine wpAnyL_done (by kernel_rfl) ?_ _
    generalize wf.setCell ⟨gr, 7, none⟩ (.int .i64 x7) = wg at I9 H9 F9 R9 ⊢
    clear I8 H8 F8 R8 c1 c2 c3 WR HW
    have DD := hide (unhide DO _ (unhide I9))
    clear DO
    go_wp2_with (refine wpList_load_row rfl 69 _ rfl ib rfl 69 #[.int .i64 (op : Int), .int .i64 (sm : Int), .int .i64 (sr : Int), .int .i64 sx, .int .i64 (dm : Int), .int .i64 (dr : Int), .int .i64 dx, .int .i64 n] (0, 0) _ (unhide R9) Tryz.underlying69 rfl (by kernel_rfl) ?_)
    refine (unhide DD).mono ?_
    rintro e wh ⟨y2, rfl, ah⟩
    have H10 := hide ((unhide H9).other ah.fm (unhide OG).1 (unhide OG).2 (unhide OX))
    have F10 := hide ((unhide F9).trans (ah.fm.bel (unhide F9).size zg (fun b k => by have := (unhide YN b k).1; omega)))
    cases okd
    · clear ah DD I9 H9 F9 R9
      simp only [if_neg (show ¬ (false = true) by decide)]
      have c8 := row_st (unhide H10).row
      have e8 := row_fz (unhide H10).row 8
      obtain ⟨h9, f9⟩ := (unhide H10).setS 2
      have H9 := hide h9
      have F9 := hide ((Fm.of (g := g) (y := x) (unhide F10)).trans f9)
      clear h9 f9
      go_wp2
      refine bodyPost_ret (results_none rfl _ _ _) rfl ?_
      first | exact ⟨_, rfl, unhide H9, unhide F9⟩ | exact ⟨rfl, _, unhide H9, unhide F9⟩
    · have I10 := hide (ah.yes (by trivial))
      have c2' := (unhide I10).row
      have C2 := hide c2'
      have H11 := hide ((unhide H10).lay2 (unhide I10).own (unhide I10).fl (by have := unhide LB; omega) (by have := unhide GL; omega))
      have F11 := hide (Fm.over (g := g) (y := x) (unhide F10) (unhide I10).own (by omega) y2.cs)
      have RG := hide (unhide H10).row
      clear ah DD I9 H9 F9 R9 I10 H10 F10 c2'
      go_wp2_with (first | (refine wpList_load_row rfl 26 _ rfl g2 rfl 26 y2.cs (0, 0) _ (unhide C2) Tryz.underlying26 rfl (by kernel_rfl) ?_) | (refine wpList_store_row rfl 26 _ _ rfl g y2.cs rfl rfl 26 x.cs (unhide RG) (by kernel_rfl) rfl (Mv.cs_one _) ?_))
      go_end0
      first | exact ⟨y2, rfl, unhide H11, unhide F11⟩ | exact ⟨rfl, y2, unhide H11, unhide F11⟩
end Go.Proofs.YtjpbjbnialehbaaGreatDoor

namespace Go.Proofs.YtjpbjbnialehbaaGreatDoor
open Go.ChangeShapes Go.WideShapes Go.ChangeAt Go.RowKit
set_option linter.unusedVariables false
set_option maxRecDepth 8000
set_option linter.unusedSimpArgs false
theorem ls_any (B g : Nat) (x : Mv) (t : Ms) (st : Int) (w : World) (h : Sm w B g x t st) (hk : Dk t.d) : LsIs B g x t (if t.stpB = true then t.stp else t) (if t.stpB = true then t.stpS st else 2) w := by
  unfold Ms.stpB Ms.insB
  cases h1 : adB (nAt t.d.r 7)
  · exact ls_odd B g x t st w h hk h1
  · cases h2 : decOk t.d.m (nAt t.d.r 7 / 2)
    · exact ls_none B g x t st w h hk h1 h2
    · have hok : t.ins.ok = true := by unfold Ms.ins; unfold decOk at h2; simp only [Bool.and_eq_true] at h2; exact h2.2.2
      obtain ⟨op, sm, sr, dm, dr, e1, e2, e3, e4, e5, hi⟩ := is_nat hok
      have hx : t.ins = ⟨op, ⟨sm, sr, t.ins.s.x⟩, ⟨dm, dr, t.ins.d.x⟩, t.ins.n⟩ := by rw [← e1, ← e2, ← e3, ← e4, ← e5]
      have q := ls_do B g x t st w h hk h1 h2 op sm sr dm dr _ _ _ hx hi
      unfold Ms.stp Ms.stpS
      rw [show t.ins.op.toNat = op by omega, show t.ins.s.m.toNat = sm by omega, show t.ins.s.r.toNat = sr by omega, show t.ins.d.m.toNat = dm by omega, show t.ins.d.r.toNat = dr by omega]
      exact q
/-- What Step answers. -/
def SsIs (x : Mv) (d2 : Md) (f2 : Bool × Bool × Bool × Bool × Int) (w : World) : Prop := Calls Tryz.prog 9 #[.agg x.cs] w fun e w' => ∃ y : Mv, e = .returned (.agg y.cs) ∧ y.fl = f2 ∧ OwnM w' (w.heap.size + 2) y d2 ∧ Below w.heap.size w w' 
set_option maxHeartbeats 4000000 in
theorem stS_no (x : Mv) (d : Md) (w : World) (hs : x.small) (hz : x.nz) (hr : RdM w x d) (hno : (d.ok x.st && x.st == 0) = false) : SsIs x d x.fl w := by
  have B1 := hide (bst_new w x)
  have X1 := hide (hr.later (unhide B1).bel)
  have CM := hide (copyS_any x d _ hs hz (unhide X1))
  have MK := hide (fun v (h : RdM v x d) => okS_any x d v hs h)
  unfold SsIs
  cases hok : d.ok x.st
  · rw [hok] at MK
    clear hs hz hr hok hno
    go_enter Tryz.func9, Tryz.ntmps9
    go_wp2_with (refine wpList_load_row rfl 26 _ rfl w.heap.size rfl 26 x.cs (0, 0) _ (unhide B1).bx Tryz.underlying26 rfl (by kernel_rfl) ?_)
    refine (unhide CM).mono ?_
    rintro e w2 ⟨y, rfl, fy, oy, hb⟩
    have S2 := hide (show w.heap.size + 2 ≤ w2.heap.size by have := (unhide B1).sz; have := hb.size; omega)
    have B2 := hide (((unhide B1).later hb).later (below_new w2 (.cells y.cs 26)))
    have X2 := hide (((unhide X1).later hb).later (below_new w2 (.cells y.cs 26)))
    have oy := oy.base (C := w.heap.size + 2) (by have := (unhide B1).sz; omega)
    have I2 := hide (show Sm (w2.alloc (.cells y.cs 26)) (w.heap.size + 2) w2.heap.size y (x.ms d) x.st from ⟨heap_alloc_last w2 _, oy.later (below_new w2 _), fy, unhide S2, fun b k => by have := (oy.lo k).2; omega⟩)
    have MK2 := hide (unhide MK _ (unhide X2))
    clear fy oy hb CM MK B1 X1 X2
    go_wp2_with (first | (refine wpList_store_new rfl 26 _ _ rfl y.cs rfl rfl _ (by kernel_rfl) rfl (Mv.cs_one _) ?_) | (refine wpList_load_row rfl 26 _ rfl w.heap.size rfl 26 x.cs (0, 0) _ (unhide B2).bx Tryz.underlying26 rfl (by kernel_rfl) ?_))
    refine (unhide MK2).mono ?_
    rintro e w3 ⟨rfl, hb⟩
    have B3 := hide ((unhide B2).later hb)
    have I3 := hide ((unhide I2).later hb)
    have c8 := row_st (unhide B3).bx
    clear hb MK2 B2 I2
    clear c8
    go_wp2_with (first | (refine wpList_load_row rfl 26 _ rfl w2.heap.size rfl 26 y.cs (0, 0) _ (unhide I3).row Tryz.underlying26 rfl (by kernel_rfl) ?_) | (refine wpList_store_row rfl 26 _ _ rfl (w.heap.size + 1) y.cs rfl rfl 26 zMv.cs (unhide B3).re (by kernel_rfl) rfl (Mv.cs_one _) ?_))
    obtain ⟨r1, r2⟩ := (unhide B3).done y.cs
    refine bodyPost_ret (results_cell_row (P := Tryz.prog) rfl _ _ (w.heap.size + 1) 26 y.cs (0, 0) _ rfl r1 Tryz.underlying26 rfl (by kernel_rfl)) rfl ?_
    exact ⟨y, rfl, (unhide I3).fl, (unhide I3).own.row (by omega) _, r2⟩
  · rw [hok] at MK hno
    have hst : x.st ≠ 0 := fun e => by rw [e] at hno; simp at hno
    clear hs hz hr hok hno
    go_enter Tryz.func9, Tryz.ntmps9
    go_wp2_with (refine wpList_load_row rfl 26 _ rfl w.heap.size rfl 26 x.cs (0, 0) _ (unhide B1).bx Tryz.underlying26 rfl (by kernel_rfl) ?_)
    refine (unhide CM).mono ?_
    rintro e w2 ⟨y, rfl, fy, oy, hb⟩
    have S2 := hide (show w.heap.size + 2 ≤ w2.heap.size by have := (unhide B1).sz; have := hb.size; omega)
    have B2 := hide (((unhide B1).later hb).later (below_new w2 (.cells y.cs 26)))
    have X2 := hide (((unhide X1).later hb).later (below_new w2 (.cells y.cs 26)))
    have oy := oy.base (C := w.heap.size + 2) (by have := (unhide B1).sz; omega)
    have I2 := hide (show Sm (w2.alloc (.cells y.cs 26)) (w.heap.size + 2) w2.heap.size y (x.ms d) x.st from ⟨heap_alloc_last w2 _, oy.later (below_new w2 _), fy, unhide S2, fun b k => by have := (oy.lo k).2; omega⟩)
    have MK2 := hide (unhide MK _ (unhide X2))
    clear fy oy hb CM MK B1 X1 X2
    go_wp2_with (first | (refine wpList_store_new rfl 26 _ _ rfl y.cs rfl rfl _ (by kernel_rfl) rfl (Mv.cs_one _) ?_) | (refine wpList_load_row rfl 26 _ rfl w.heap.size rfl 26 x.cs (0, 0) _ (unhide B2).bx Tryz.underlying26 rfl (by kernel_rfl) ?_))
    refine (unhide MK2).mono ?_
    rintro e w3 ⟨rfl, hb⟩
    have B3 := hide ((unhide B2).later hb)
    have I3 := hide ((unhide I2).later hb)
    have c8 := row_st (unhide B3).bx
    clear hb MK2 B2 I2
    go_wp2_with (first | (refine wpList_load_row rfl 26 _ rfl w2.heap.size rfl 26 y.cs (0, 0) _ (unhide I3).row Tryz.underlying26 rfl (by kernel_rfl) ?_) | (refine wpList_store_row rfl 26 _ _ rfl (w.heap.size + 1) y.cs rfl rfl 26 zMv.cs (unhide B3).re (by kernel_rfl) rfl (Mv.cs_one _) ?_))
    obtain ⟨r1, r2⟩ := (unhide B3).done y.cs
    refine bodyPost_ret (results_cell_row (P := Tryz.prog) rfl _ _ (w.heap.size + 1) 26 y.cs (0, 0) _ rfl r1 Tryz.underlying26 rfl (by kernel_rfl)) rfl ?_
    exact ⟨y, rfl, (unhide I3).fl, (unhide I3).own.row (by omega) _, r2⟩
set_option maxHeartbeats 4000000 in
theorem stS_do (x : Mv) (d : Md) (w : World) (hs : x.small) (hz : x.nz) (hr : RdM w x d) (hok : d.ok x.st = true) (h0 : x.st = 0) : SsIs x (if (x.ms d).stpB = true then (x.ms d).stp.d else d) (if (x.ms d).stpB = true then (x.ms d).stp.fl ((x.ms d).stpS 0) else (x.ms d).fl 2) w := by
  have B1 := hide (bst_new w x)
  have X1 := hide (hr.later (unhide B1).bel)
  have CM := hide (copyS_any x d _ hs hz (unhide X1))
  have MK := hide (fun v (h : RdM v x d) => okS_any x d v hs h)
  rw [hok] at MK
  have DK := hide (dk_of hok).1
  have LS := hide (fun g B (y : Mv) v (i : Sm v B g y (x.ms d) x.st) => ls_any B g y (x.ms d) x.st v i (unhide DK))
  unfold LsIs at LS
  unfold SsIs
  have E2 := hide (show ∀ b : Bool, (if b = true then (x.ms d).stp.d else d) = (if b = true then (x.ms d).stp else x.ms d).d ∧ (if b = true then (x.ms d).stp.fl ((x.ms d).stpS 0) else (x.ms d).fl 2) = (if b = true then (x.ms d).stp else x.ms d).fl (if b = true then (x.ms d).stpS x.st else 2) from fun b => by rw [h0]; cases b <;> exact ⟨rfl, rfl⟩)
  rw [(unhide E2 (x.ms d).stpB).1, (unhide E2 (x.ms d).stpB).2]
  generalize (if (x.ms d).stpB = true then (x.ms d).stp else x.ms d) = t2 at LS ⊢
  generalize (if (x.ms d).stpB = true then (x.ms d).stpS x.st else 2) = s2 at LS ⊢
  clear hs hz hr hok DK E2
  go_enter Tryz.func9, Tryz.ntmps9
  go_wp2_with (refine wpList_load_row rfl 26 _ rfl w.heap.size rfl 26 x.cs (0, 0) _ (unhide B1).bx Tryz.underlying26 rfl (by kernel_rfl) ?_)
  refine (unhide CM).mono ?_
  rintro e w2 ⟨y, rfl, fy, oy, hb⟩
  have S2 := hide (show w.heap.size + 2 ≤ w2.heap.size by have := (unhide B1).sz; have := hb.size; omega)
  have B2 := hide (((unhide B1).later hb).later (below_new w2 (.cells y.cs 26)))
  have X2 := hide (((unhide X1).later hb).later (below_new w2 (.cells y.cs 26)))
  have oy := oy.base (C := w.heap.size + 2) (by have := (unhide B1).sz; omega)
  have I2 := hide (show Sm (w2.alloc (.cells y.cs 26)) (w.heap.size + 2) w2.heap.size y (x.ms d) x.st from ⟨heap_alloc_last w2 _, oy.later (below_new w2 _), fy, unhide S2, fun b k => by have := (oy.lo k).2; omega⟩)
  have MK2 := hide (unhide MK _ (unhide X2))
  clear fy oy hb CM MK B1 X1 X2
  go_wp2_with (first | (refine wpList_store_new rfl 26 _ _ rfl y.cs rfl rfl _ (by kernel_rfl) rfl (Mv.cs_one _) ?_) | (refine wpList_load_row rfl 26 _ rfl w.heap.size rfl 26 x.cs (0, 0) _ (unhide B2).bx Tryz.underlying26 rfl (by kernel_rfl) ?_))
  refine (unhide MK2).mono ?_
  rintro e w3 ⟨rfl, hb⟩
  have B3 := hide ((unhide B2).later hb)
  have I3 := hide ((unhide I2).later hb)
  have c8 := row_st (unhide B3).bx
  clear hb MK2 B2 I2
  rw [h0] at c8
  have LC := hide (unhide LS _ _ _ _ (unhide I3))
  clear LS
  go_wp2_with fail
  refine (unhide LC).mono ?_
  rintro e w4 ⟨y4, rfl, i4, f4⟩
  have I4 := hide i4
  have B4 := hide ((unhide B3).bel2 (B := w.heap.size + 2) (f4.bel (unhide B3).sz (unhide S2) (fun b k => ((unhide I3).own.lo k).1)) (Nat.le_refl _))
  clear i4 f4 LC B3 I3 c8
  go_wp2_with (first | (refine wpList_load_row rfl 26 _ rfl w2.heap.size rfl 26 y4.cs (0, 0) _ (unhide I4).row Tryz.underlying26 rfl (by kernel_rfl) ?_) | (refine wpList_store_row rfl 26 _ _ rfl (w.heap.size + 1) y4.cs rfl rfl 26 zMv.cs (unhide B4).re (by kernel_rfl) rfl (Mv.cs_one _) ?_))
  obtain ⟨r1, r2⟩ := (unhide B4).done y4.cs
  refine bodyPost_ret (results_cell_row (P := Tryz.prog) rfl _ _ (w.heap.size + 1) 26 y4.cs (0, 0) _ rfl r1 Tryz.underlying26 rfl (by kernel_rfl)) rfl ?_
  exact ⟨y4, rfl, (unhide I4).fl, (unhide I4).own.row (by omega) _, r2⟩
/-- Step by the model, at every machine. -/
theorem stepS_all (x : Mv) (d : Md) (w : World) (hs : x.small) (hz : x.nz) (hr : RdM w x d) : SsIs x ((x.ms d).stA x.st).d (((x.ms d).stA x.st).fl ((x.ms d).stN x.st)) w := by
  unfold Ms.stA Ms.stN
  cases hno : (d.ok x.st && x.st == 0)
  · have e1 : ((x.ms d).d.ok x.st && x.st == 0) = false := hno
    have e2 : ((x.ms d).d.ok x.st && (x.st == 0 && (x.ms d).stpB)) = false := by rw [← Bool.and_assoc, e1, Bool.false_and]
    rw [e1, e2, if_neg (by simp), if_neg (by simp)]
    exact stS_no x d w hs hz hr hno
  · have e1 : ((x.ms d).d.ok x.st && x.st == 0) = true := hno
    have e2 : ((x.ms d).d.ok x.st && (x.st == 0 && (x.ms d).stpB)) = (x.ms d).stpB := by rw [← Bool.and_assoc, e1, Bool.true_and]
    rw [e1, e2, if_pos rfl]
    simp only [Bool.and_eq_true, beq_iff_eq] at hno
    have q := stS_do x d w hs hz hr hno.1 hno.2
    cases hb : (x.ms d).stpB
    · rw [hb] at q
      exact q
    · rw [hb] at q
      exact q
end Go.Proofs.YtjpbjbnialehbaaGreatDoor

namespace Go.Proofs.YtjpbjbnialehbaaGreatDoor
open Go.ChangeShapes Go.WideShapes Go.ChangeAt Go.RowKit
set_option linter.unusedVariables false
set_option maxRecDepth 8000
section
variable {H : Type} {enc : TypeId × Value → H} {W : World} {b0 base : Nat} {held : Bool}
theorem sl_of_trod {n : Nat} {c : Value} {y : DataW H × List MemPlace} (h : DataW.trod enc Tryz.prog W base (fun _ => true) held n 24 [c] = some y) : ∃ (s : Sl) (ns : List Int), c = .slice s.a s.n s.c ∧ RdN W s.a ns ∧ ns.length = s.n ∧ s.n ≤ maxLen := by
  rcases open_ints Tryz.underlying24 Tryz.underlying3 (by kernel_rfl) h with ⟨hcs, _⟩ | ⟨x, l, k, zs, hcs, _, hl, hm, hz, _, hcell, hwz⟩
  · simp at hcs
    exact ⟨⟨none, 0, 0⟩, [], hcs, .inl rfl, rfl, Nat.zero_le _⟩
  · simp at hcs
    have hrow : IsRow .i64 W (some x) l k zs := .inr ⟨x, rfl, hl, hm, by simpa using hz, hcell, hwz⟩
    obtain ⟨ns, h1, h2, h3, h4, _⟩ := rdN_of_row hrow
    exact ⟨⟨some x, l, k⟩, ns, hcs, h4, h1, Nat.le_trans hl hm⟩
theorem bool_of_trod {n : Nat} {c : Value} {y : DataW H × List MemPlace} (h : DataW.trod enc Tryz.prog W base (fun _ => true) held n 4 [c] = some y) : ∃ b : Bool, c = .bool b := by
  obtain ⟨b, hb, _⟩ := DataW.trod_bool Tryz.underlying4 h
  simp at hb
  exact ⟨b, hb⟩
theorem int_of_trod {n : Nat} {c : Value} {y : DataW H × List MemPlace} (h : DataW.trod enc Tryz.prog W base (fun _ => true) held n 3 [c] = some y) : ∃ x : Int, c = .int .i64 x ∧ (Lit.int .i64 x).wf = true := by
  obtain ⟨x, hx, _, hw⟩ := DataW.trod_int Tryz.underlying3 h
  simp at hx
  exact ⟨x, hx, hw⟩
theorem some_of_get {α : Type} {xs : List α} {o : Option α} {i : Nat} (h : o = xs[i]?) (hi : i < xs.length) : ∃ y, o = some y := ⟨xs[i], by rw [h, List.getElem?_eq_getElem hi]⟩
set_option maxHeartbeats 1000000 in
theorem open_mv {r : Reach} {v : Value} {d : DataW H} {p : List MemPlace} (hv : Value.okWide Tryz.prog W r b0 31 v) (h : DataW.Trod enc Tryz.prog W base (fun _ => true) held 31 v d p) : ∃ (x : Mv) (e : Md), v = .agg x.cs ∧ RdM W x e ∧ x.lens := by
  obtain ⟨cs, rfl, hsz⟩ := okWide_struct Tryz.underlying31 hv
  obtain ⟨fuel, hf⟩ := h
  obtain ⟨xs, n, _, _, hl, hlen, hg⟩ := DataW.trod_struct Tryz.underlying31 hf
  have hc : Tryz.prog.cellsOf 31 = 9 := by kernel_rfl
  have hc3 : Tryz.prog.cellsOf 3 = 1 := by kernel_rfl
  have hc4 : Tryz.prog.cellsOf 4 = 1 := by kernel_rfl
  have hc24 : Tryz.prog.cellsOf 24 = 1 := by kernel_rfl
  rw [hc] at hsz
  obtain ⟨l⟩ := cs
  match l, hsz with
  | [k0, k1, k2, k3, k4, k5, k6, k7, k8], _ =>
    have hlen' : xs.length = 9 := hlen
    have g0 := hg 0 (Field.mk "Mem" 24 0 false "" "" 0) rfl
    have g1 := hg 1 (Field.mk "R" 24 1 false "" "" 24) rfl
    have g2 := hg 2 (Field.mk "N" 4 2 false "" "" 48) rfl
    have g3 := hg 3 (Field.mk "Z" 4 3 false "" "" 49) rfl
    have g4 := hg 4 (Field.mk "V" 4 4 false "" "" 50) rfl
    have g5 := hg 5 (Field.mk "C" 4 5 false "" "" 51) rfl
    have g6 := hg 6 (Field.mk "In" 24 6 false "" "" 56) rfl
    have g7 := hg 7 (Field.mk "Out" 24 7 false "" "" 80) rfl
    have g8 := hg 8 (Field.mk "Stop" 3 8 false "" "" 104) rfl
    simp only [hc3, hc4, hc24, Value.cells] at g0 g1 g2 g3 g4 g5 g6 g7 g8
    obtain ⟨y0, e0⟩ := some_of_get g0 (by omega)
    obtain ⟨y1, e1⟩ := some_of_get g1 (by omega)
    obtain ⟨y2, e2⟩ := some_of_get g2 (by omega)
    obtain ⟨y3, e3⟩ := some_of_get g3 (by omega)
    obtain ⟨y4, e4⟩ := some_of_get g4 (by omega)
    obtain ⟨y5, e5⟩ := some_of_get g5 (by omega)
    obtain ⟨y6, e6⟩ := some_of_get g6 (by omega)
    obtain ⟨y7, e7⟩ := some_of_get g7 (by omega)
    obtain ⟨y8, e8⟩ := some_of_get g8 (by omega)
    simp only [List.drop_succ_cons, List.drop_zero, List.take_succ_cons, List.take_zero] at e0 e1 e2 e3 e4 e5 e6 e7 e8
    obtain ⟨s0, n0, rfl, r0, l0, m0⟩ := sl_of_trod e0
    obtain ⟨s1, n1, rfl, r1, l1, m1⟩ := sl_of_trod e1
    obtain ⟨q2, rfl⟩ := bool_of_trod e2
    obtain ⟨q3, rfl⟩ := bool_of_trod e3
    obtain ⟨q4, rfl⟩ := bool_of_trod e4
    obtain ⟨q5, rfl⟩ := bool_of_trod e5
    obtain ⟨s6, n6, rfl, r6, l6, m6⟩ := sl_of_trod e6
    obtain ⟨s7, n7, rfl, r7, l7, m7⟩ := sl_of_trod e7
    obtain ⟨x8, rfl, _⟩ := int_of_trod e8
    exact ⟨⟨s0, s1, q2, q3, q4, q5, s6, s7, x8⟩, ⟨n0, n1, n6, n7⟩, rfl, ⟨r0, r1, r6, r7, l0, l1, l6, l7⟩, m0, m1, m6, m7⟩
end
end Go.Proofs.YtjpbjbnialehbaaGreatDoor

namespace Go.Proofs.YtjpbjbnialehbaaGreatDoor
open Go.ChangeShapes Go.WideShapes Go.ChangeAt Go.RowKit
set_option linter.unusedVariables false
set_option maxRecDepth 8000
theorem own : ownKnob Tryz.prog.godebug = none := by kernel_rfl
theorem laidOut : laidOutB Tryz.prog = true := by kernel_rfl
theorem gTab : Tryz.prog.globalNamed "loop.example/g00329/impl.firstWords" = some 0 := by kernel_rfl
theorem tTab : (Tryz.prog.globals[0]?).map (·.type) = some 114 := by kernel_rfl
theorem tabL_eq : (Rows.laid_loop_example_g00329_impl_firstWords : DataW Unit) = Lib.tabData .i64 baseL := by kernel_rfl
/-- What the list gives: the table's cells. -/
theorem tab_of_laid {W : World} (h : laidMetH Tryz.prog [("loop.example/g00329/impl.firstWords", Rows.laid_loop_example_g00329_impl_firstWords)] W) : Tab W := by
  rw [MakeChecks.laidMetH_plain _ _ _ (by kernel_rfl)] at h
  rw [tabL_eq] at h
  have h2 := Lib.tabIs_of_head gTab tTab Tryz.underlying114 Tryz.underlying3 (by kernel_rfl) (by kernel_rfl) h
  have hc : ∀ k, k < 24 → W.cell? ⟨0, k, none⟩ = some (.int .i64 (baseAt k)) := fun k hk => by
    have hk' : k < baseL.length := hk
    rw [h2.cell gTab k hk']; rfl
  exact ⟨World.block_lt_of_cell? W _ (hc 0 (by omega)), hc⟩
end Go.Proofs.YtjpbjbnialehbaaGreatDoor

namespace Go.Proofs.YtjpbjbnialehbaaGreatDoor
open Go.ChangeShapes Go.WideShapes Go.ChangeAt Go.RowKit
set_option linter.unusedVariables false
theorem ms_of_fl {x y : Mv} (d : Md) (h : y.fl = x.fl) : y.ms d = x.ms d := by
  unfold Mv.ms
  rw [fl_n h, fl_z h, fl_v h, fl_c h]
end Go.Proofs.YtjpbjbnialehbaaGreatDoor
