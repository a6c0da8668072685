/- Contracts over this seat's translation, laid together; conditions stand as hypotheses of each. -/
import Derived.Test.YtkolflcjkofleaaDoorTxC
import Derived.Test.YtkolflcjkofleaaDoorTxE

namespace Go.Proofs.YtkolflcjkofleaaDoor
open Go.ChangeShapes Go.WideShapes Go.ChangeAt Go.RowKit
set_option linter.unusedVariables false
set_option maxRecDepth 8000
set_option linter.unusedSimpArgs false

theorem al1 {w w' : World} {o : Obj} (h : Below (w.alloc o).heap.size (w.alloc o) w') : Below w.heap.size w w' := (below_new w o).trans (h.mono (by simp))
theorem al2 {w w' : World} {o p : Obj} (h : Below ((w.alloc o).alloc p).heap.size ((w.alloc o).alloc p) w') : Below w.heap.size w w' := al1 (al1 h)
theorem al3 {w w' : World} {o p q : Obj} (h : Below (((w.alloc o).alloc p).alloc q).heap.size (((w.alloc o).alloc p).alloc q) w') : Below w.heap.size w w' := al1 (al2 h)
theorem al4 {w w' : World} {o p q s : Obj} (h : Below ((((w.alloc o).alloc p).alloc q).alloc s).heap.size ((((w.alloc o).alloc p).alloc q).alloc s) w') : Below w.heap.size w w' := al1 (al3 h)
/-- Whether a value is a number of the program's, and which (0, where it is none). -/
def IsN (v : Value) (z : Int) (q : Bool) : Prop := ∀ w, (Instr.typeAssert v 66 88 true).run Tryd.prog w = .ok (.tuple #[.agg #[.int .i64 z], .bool q]) w
theorem isN_of {d : Nat} {a : Ex} (h : okF (d + 1) false a = true) : (a.k = 1 ∧ (0 ≤ a.n ∧ a.n ≤ 65535) ∧ IsN (tv a) a.n true) ∨ (a.k ≠ 1 ∧ IsN (tv a) 0 false) := by
  by_cases h1 : a.k = 1
  · obtain ⟨n, hn, rfl⟩ := ok_k1 h h1
    left
    rw [tv_num]
    exact ⟨rfl, hn, fun w => taY_num _ w⟩
  · right
    obtain ⟨T, x, e, g, _, _⟩ := tv_kT h
    rw [e]
    exact ⟨h1, fun w => taN_num T x (g h1) w⟩
set_option maxHeartbeats 4000000 in
theorem fp_two (k : Int) (z1 z2 : Int) (v : Int) (hw : two11 k z1 z2 = some v) (tw : ∀ w, Calls Tryd.prog 88 #[.int .i64 k, .int .i64 z1, .int .i64 z2] w (TwoR k z1 z2 w)) (ta tb : TypeId) (xa xb : Value) (i1 : IsN (.iface ta xa) z1 true) (i2 : IsN (.iface tb xb) z2 true) (w : World) : Calls Tryd.prog 73 #[.int .i64 k, .agg #[.iface ta xa, .iface tb xb]] w (VaR (.iface 88 (.agg #[.int .i64 v])) w) := by
  have FN := hide (fun r w' (h : r = .returned (.iface 88 (.agg #[.int .i64 v]))) (hb : Below w.heap.size w w') => (show VaR _ w r w' from ⟨h, hb⟩))
  generalize VaR (.iface 88 (.agg #[.int .i64 v])) w = R at *
  unfold IsN at i1 i2
  have TW := hide tw
  unfold TwoR at TW
  rw [hw] at TW
  simp only [Option.getD_some, Option.isSome_some] at TW
  clear tw hw
  go_enter Tryd.func73, Tryd.ntmps73
  go_wp2_with (go_at_call 88; refine (unhide TW _).mono ?_; rintro r w0 ⟨hw0, rfl⟩; rw [hw0]; clear hw0 w0)
  (first | go_ret2 | go_ret | skip)
  exact unhide FN _ _ rfl (by first | exact Below.refl _ _ | exact al1 (Below.refl _ _) | exact al2 (Below.refl _ _) | exact al3 (Below.refl _ _) | exact al4 (Below.refl _ _))
set_option maxHeartbeats 4000000 in
theorem fp_none (k : Int) (z1 z2 : Int) (h5 : (k == 5) = false) (h6 : (k == 6) = false) (hw : two11 k z1 z2 = none) (tw : ∀ w, Calls Tryd.prog 88 #[.int .i64 k, .int .i64 z1, .int .i64 z2] w (TwoR k z1 z2 w)) (hk : inB k 5 10 = true) (ta tb : TypeId) (xa xb : Value) (i1 : IsN (.iface ta xa) z1 true) (i2 : IsN (.iface tb xb) z2 true) (w : World) : Calls Tryd.prog 73 #[.int .i64 k, .agg #[.iface ta xa, .iface tb xb]] w (VaR (.iface (pairT k) (.agg #[.iface ta xa, .iface tb xb])) w) := by
  have FN := hide (fun r w' (h : r = .returned (.iface (pairT k) (.agg #[.iface ta xa, .iface tb xb]))) (hb : Below w.heap.size w w') => (show VaR _ w r w' from ⟨h, hb⟩))
  generalize VaR (.iface (pairT k) (.agg #[.iface ta xa, .iface tb xb])) w = R at *
  unfold IsN at i1 i2
  have TW := hide tw
  unfold TwoR at TW
  rw [hw] at TW
  simp only [Option.getD_none, Option.isSome_none] at TW
  have PA := hide (fun w => pair_any k (.iface ta xa) (.iface tb xb) w)
  rw [hk] at PA
  simp only [forall_const] at PA
  clear tw hw hk
  generalize pairT k = pT at *
  go_enter Tryd.func73, Tryd.ntmps73
  go_wp2_with (go_at_call 88; refine (unhide TW _).mono ?_; rintro r w0 ⟨hw0, rfl⟩; rw [hw0]; clear hw0 w0)
  go_wp2_with fail
  refine (unhide PA _).mono ?_
  rintro r w1 ⟨x, rfl, rfl, hb1⟩
  have B1 := hide (show Below w.heap.size w w1 by first | exact hb1 | exact al1 hb1 | exact al2 hb1 | exact al3 hb1 | exact al4 hb1)
  clear hb1
  go_wp2
  (first | go_ret2 | go_ret | skip)
  exact unhide FN _ _ rfl (unhide B1)
set_option maxHeartbeats 4000000 in
theorem fp_oth (k : Int) (h5 : (k == 5) = false) (h6 : (k == 6) = false) (hk : inB k 5 10 = true) (q1 q2 : Bool) (hq : (q1 && q2) = false) (ta tb : TypeId) (xa xb : Value) (z1 z2 : Int) (i1 : IsN (.iface ta xa) z1 q1) (i2 : IsN (.iface tb xb) z2 q2) (w : World) : Calls Tryd.prog 73 #[.int .i64 k, .agg #[.iface ta xa, .iface tb xb]] w (VaR (.iface (pairT k) (.agg #[.iface ta xa, .iface tb xb])) w) := by
  have FN := hide (fun r w' (h : r = .returned (.iface (pairT k) (.agg #[.iface ta xa, .iface tb xb]))) (hb : Below w.heap.size w w') => (show VaR _ w r w' from ⟨h, hb⟩))
  generalize VaR (.iface (pairT k) (.agg #[.iface ta xa, .iface tb xb])) w = R at *
  unfold IsN at i1 i2
  have PA := hide (fun w => pair_any k (.iface ta xa) (.iface tb xb) w)
  rw [hk] at PA
  simp only [forall_const] at PA
  clear hk
  generalize pairT k = pT at *
  cases q1 <;> cases q2 <;> (first | cases hq | skip)
  all_goals
    go_enter Tryd.func73, Tryd.ntmps73
    go_wp2_with fail
    refine (unhide PA _).mono ?_
    rintro r w1 ⟨x, rfl, rfl, hb1⟩
    have B1 := hide (show Below w.heap.size w w1 by first | exact hb1 | exact al1 hb1 | exact al2 hb1 | exact al3 hb1 | exact al4 hb1)
    clear hb1
    go_wp2
    (first | go_ret2 | go_ret | skip)
    exact unhide FN _ _ rfl (unhide B1)
set_option maxHeartbeats 4000000 in
theorem fp_add0  (ta tb : TypeId) (xa xb : Value) (z1 z2 : Int) (i1 : IsN (.iface ta xa) z1 false) (i2 : IsN (.iface tb xb) z2 false) (w : World) : Calls Tryd.prog 73 #[.int .i64 5, .agg #[.iface ta xa, .iface tb xb]] w (VaR (.iface 134 (.agg #[.iface ta xa, .iface tb xb])) w) := by
  have FN := hide (fun r w' (h : r = .returned (.iface 134 (.agg #[.iface ta xa, .iface tb xb]))) (hb : Below w.heap.size w w') => (show VaR _ w r w' from ⟨h, hb⟩))
  generalize VaR (.iface 134 (.agg #[.iface ta xa, .iface tb xb])) w = R at *
  unfold IsN at i1 i2
  have PA := hide (fun w => pair_any 5 (.iface ta xa) (.iface tb xb) w)
  rw [show inB 5 5 10 = true by decide, show pairT 5 = 134 from rfl] at PA
  simp only [forall_const] at PA
  go_enter Tryd.func73, Tryd.ntmps73
  go_wp2_with fail
  refine (unhide PA _).mono ?_
  rintro r w1 ⟨x, rfl, rfl, hb1⟩
  have B1 := hide (show Below w.heap.size w w1 by first | exact hb1 | exact al1 hb1 | exact al2 hb1 | exact al3 hb1 | exact al4 hb1)
  clear hb1
  go_wp2
  (first | go_ret2 | go_ret | skip)
  exact unhide FN _ _ rfl (unhide B1)
set_option maxHeartbeats 4000000 in
theorem fp_add1 (V : Value) (z1 : Int) (tb : TypeId) (xb : Value) (ad : ∀ w, Calls Tryd.prog 89 #[.iface tb xb, .int .i64 z1] w (VaR V w)) (ta : TypeId) (xa : Value) (z2 : Int) (i1 : IsN (.iface ta xa) z1 true) (i2 : IsN (.iface tb xb) z2 false) (w : World) : Calls Tryd.prog 73 #[.int .i64 5, .agg #[.iface ta xa, .iface tb xb]] w (VaR (V) w) := by
  have FN := hide (fun r w' (h : r = .returned (V)) (hb : Below w.heap.size w w') => (show VaR _ w r w' from ⟨h, hb⟩))
  generalize VaR (V) w = R at *
  unfold IsN at i1 i2
  have AD := hide ad
  unfold VaR at AD
  clear ad
  go_enter Tryd.func73, Tryd.ntmps73
  go_wp2_with fail
  refine (unhide AD _).mono ?_
  rintro r w1 ⟨rfl, hb1⟩
  have B1 := hide (show Below w.heap.size w w1 by first | exact hb1 | exact al1 hb1 | exact al2 hb1 | exact al3 hb1 | exact al4 hb1)
  clear hb1
  go_wp2
  (first | go_ret2 | go_ret | skip)
  exact unhide FN _ _ rfl (unhide B1)
set_option maxHeartbeats 4000000 in
theorem fp_add2 (V : Value) (z2 : Int) (ta : TypeId) (xa : Value) (ad : ∀ w, Calls Tryd.prog 89 #[.iface ta xa, .int .i64 z2] w (VaR V w)) (tb : TypeId) (xb : Value) (z1 : Int) (i1 : IsN (.iface ta xa) z1 false) (i2 : IsN (.iface tb xb) z2 true) (w : World) : Calls Tryd.prog 73 #[.int .i64 5, .agg #[.iface ta xa, .iface tb xb]] w (VaR (V) w) := by
  have FN := hide (fun r w' (h : r = .returned (V)) (hb : Below w.heap.size w w') => (show VaR _ w r w' from ⟨h, hb⟩))
  generalize VaR (V) w = R at *
  unfold IsN at i1 i2
  have AD := hide ad
  unfold VaR at AD
  clear ad
  go_enter Tryd.func73, Tryd.ntmps73
  go_wp2_with fail
  refine (unhide AD _).mono ?_
  rintro r w1 ⟨rfl, hb1⟩
  have B1 := hide (show Below w.heap.size w w1 by first | exact hb1 | exact al1 hb1 | exact al2 hb1 | exact al3 hb1 | exact al4 hb1)
  clear hb1
  go_wp2
  (first | go_ret2 | go_ret | skip)
  exact unhide FN _ _ rfl (unhide B1)
set_option maxHeartbeats 4000000 in
theorem fp_sub2 (V : Value) (z2 : Int) (hz : 0 ≤ z2 ∧ z2 ≤ 65535) (ta : TypeId) (xa : Value) (ad : ∀ w, Calls Tryd.prog 89 #[.iface ta xa, .int .i64 (-z2)] w (VaR V w)) (tb : TypeId) (xb : Value) (z1 : Int) (i1 : IsN (.iface ta xa) z1 false) (i2 : IsN (.iface tb xb) z2 true) (w : World) : Calls Tryd.prog 73 #[.int .i64 6, .agg #[.iface ta xa, .iface tb xb]] w (VaR (V) w) := by
  have FN := hide (fun r w' (h : r = .returned (V)) (hb : Below w.heap.size w w') => (show VaR _ w r w' from ⟨h, hb⟩))
  generalize VaR (V) w = R at *
  unfold IsN at i1 i2
  have AD := hide ad
  unfold VaR at AD
  clear ad
  go_enter Tryd.func73, Tryd.ntmps73
  go_wp2_with fail
  refine (unhide AD _).mono ?_
  rintro r w1 ⟨rfl, hb1⟩
  have B1 := hide (show Below w.heap.size w w1 by first | exact hb1 | exact al1 hb1 | exact al2 hb1 | exact al3 hb1 | exact al4 hb1)
  clear hb1
  go_wp2
  (first | go_ret2 | go_ret | skip)
  exact unhide FN _ _ rfl (unhide B1)
set_option maxHeartbeats 4000000 in
theorem fp_sub0 (n m : Int) (ta tb : TypeId) (xa xb : Value) (q1 : Bool) (ap : ∀ w, Calls Tryd.prog 90 #[.agg #[.iface ta xa, .iface tb xb]] w (ApR n m false w)) (z1 z2 : Int) (i1 : IsN (.iface ta xa) z1 q1) (i2 : IsN (.iface tb xb) z2 false) (w : World) : Calls Tryd.prog 73 #[.int .i64 6, .agg #[.iface ta xa, .iface tb xb]] w (VaR (.iface 135 (.agg #[.iface ta xa, .iface tb xb])) w) := by
  have FN := hide (fun r w' (h : r = .returned (.iface 135 (.agg #[.iface ta xa, .iface tb xb]))) (hb : Below w.heap.size w w') => (show VaR _ w r w' from ⟨h, hb⟩))
  generalize VaR (.iface 135 (.agg #[.iface ta xa, .iface tb xb])) w = R at *
  unfold IsN at i1 i2
  have AP := hide ap
  unfold ApR at AP
  clear ap
  generalize wr (n - m) = nm at *
  have G0 := hide (show (w.alloc (.cells #[.iface ta xa, .iface tb xb] 107)).heap[w.heap.size]? = some (.cells #[.iface ta xa, .iface tb xb] 107 (0, 0)) from Array.getElem?_push_size)
  have PA := hide (fun w => pair_any 6 (.iface ta xa) (.iface tb xb) w)
  rw [show inB 6 5 10 = true by decide, show pairT 6 = 135 from rfl] at PA
  simp only [forall_const] at PA
  cases q1
  all_goals
    go_enter Tryd.func73, Tryd.ntmps73
    go_wp2_with fail
    refine (unhide AP _).mono ?_
    rintro r w1 ⟨rfl, hb1⟩
    have G1 : w1.heap[w.heap.size]? = some (.cells #[.iface ta xa, .iface tb xb] 107 (0, 0)) := by first | exact row_keep (unhide G0) hb1 | exact row_keep (unhide G0) (al1 hb1) | exact row_keep (unhide G0) (al2 hb1) | exact row_keep (unhide G0) (al3 hb1)
    have p0 := Lib.cell_of_heap G1 0
    have p1 := Lib.cell_of_heap G1 1
    have B1 := hide (show Below w.heap.size w w1 by first | exact hb1 | exact al1 hb1 | exact al2 hb1 | exact al3 hb1 | exact al4 hb1)
    clear hb1 G1
    go_wp2_with fail
    refine (unhide PA _).mono ?_
    rintro r w2 ⟨x, rfl, rfl, hb2⟩
    have B2 := hide (show Below w.heap.size w w2 from (unhide B1).trans (hb2.mono (unhide B1).size))
    clear hb2
    go_wp2
    (first | go_ret2 | go_ret | skip)
    exact unhide FN _ _ rfl (unhide B2)
set_option maxHeartbeats 4000000 in
theorem fp_sub1 (n m : Int) (ta tb : TypeId) (xa xb : Value) (q1 : Bool) (ap : ∀ w, Calls Tryd.prog 90 #[.agg #[.iface ta xa, .iface tb xb]] w (ApR n m true w)) (z1 z2 : Int) (i1 : IsN (.iface ta xa) z1 q1) (i2 : IsN (.iface tb xb) z2 false) (w : World) : Calls Tryd.prog 73 #[.int .i64 6, .agg #[.iface ta xa, .iface tb xb]] w (VaR (.iface 88 (.agg #[.int .i64 (wr (n - m))])) w) := by
  have FN := hide (fun r w' (h : r = .returned (.iface 88 (.agg #[.int .i64 (wr (n - m))]))) (hb : Below w.heap.size w w') => (show VaR _ w r w' from ⟨h, hb⟩))
  generalize VaR (.iface 88 (.agg #[.int .i64 (wr (n - m))])) w = R at *
  unfold IsN at i1 i2
  have AP := hide ap
  unfold ApR at AP
  clear ap
  generalize wr (n - m) = nm at *
  have G0 := hide (show (w.alloc (.cells #[.iface ta xa, .iface tb xb] 107)).heap[w.heap.size]? = some (.cells #[.iface ta xa, .iface tb xb] 107 (0, 0)) from Array.getElem?_push_size)
  cases q1
  all_goals
    go_enter Tryd.func73, Tryd.ntmps73
    go_wp2_with fail
    refine (unhide AP _).mono ?_
    rintro r w1 ⟨rfl, hb1⟩
    have G1 : w1.heap[w.heap.size]? = some (.cells #[.iface ta xa, .iface tb xb] 107 (0, 0)) := by first | exact row_keep (unhide G0) hb1 | exact row_keep (unhide G0) (al1 hb1) | exact row_keep (unhide G0) (al2 hb1) | exact row_keep (unhide G0) (al3 hb1)
    have p0 := Lib.cell_of_heap G1 0
    have p1 := Lib.cell_of_heap G1 1
    have B1 := hide (show Below w.heap.size w w1 by first | exact hb1 | exact al1 hb1 | exact al2 hb1 | exact al3 hb1 | exact al4 hb1)
    clear hb1 G1
    go_wp2
    (first | go_ret2 | go_ret | skip)
    exact unhide FN _ _ rfl (unhide B1)
theorem foldPI_any {d : Nat} {k : Int} {a b : Ex} (hk : 5 ≤ k ∧ k ≤ 10) (ha : okF (d + 1) false a = true) (hb : okF (d + 1) false b = true) (w : World) : Calls Tryd.prog 73 #[.int .i64 k, .agg #[tv a, tv b]] w (VaR (tv (foldN k a b)) w) := by
  have AA := fun (n : Int) (hn : -65536 ≤ n ∧ n ≤ 65536) w => addI_any ha n hn w
  have AB := fun (n : Int) (hn : -65536 ≤ n ∧ n ≤ 65536) w => addI_any hb n hn w
  have AP := fun w => apI_any ha hb w
  have IA := isN_of ha
  have IB := isN_of hb
  have TT := fun (k' : Int) (hk' : 5 ≤ k' ∧ k' ≤ 10) => tv_two hk' 0 E0 a b
  obtain ⟨ta, xa, ea⟩ := tv_if a
  obtain ⟨tb, xb, eb⟩ := tv_if b
  rw [ea] at IA AA AP TT ⊢
  rw [eb] at IB AB AP TT ⊢
  have hi : inB k 5 10 = true := inB_t _ _ _ hk.1 hk.2
  rcases IA with ⟨a1, an, ia⟩ | ⟨a1, ia⟩
  · rcases IB with ⟨b1, bn, ib⟩ | ⟨b1, ib⟩
    · have TW := fun w => twoI_any k a.n b.n hk an bn w
      have E : foldN k a b = (match two11 k a.n b.n with | some n => numX n | none => mixX k a b) := by unfold foldN; exact if_pos ⟨a1, b1⟩
      rw [E]
      cases hw : two11 k a.n b.n with
      | some v =>
        simp only
        unfold numX
        rw [tv_num, wr_of (two11_in hk an bn hw)]
        exact fp_two k a.n b.n v hw TW ta tb xa xb ia ib w
      | none =>
        simp only
        have k5 : k ≠ 5 := fun h => by obtain ⟨n, hn⟩ := two11_some (k := k) (a := a.n) (b := b.n) (.inl h); rw [hn] at hw; cases hw
        have k6 : k ≠ 6 := fun h => by obtain ⟨n, hn⟩ := two11_some (k := k) (a := a.n) (b := b.n) (.inr h); rw [hn] at hw; cases hw
        unfold mixX
        rw [if_neg k6, if_neg (fun h => k5 h.1), if_neg (fun h => k5 h.1), TT k hk]
        exact fp_none k a.n b.n (beq_eq_false_iff_ne.2 k5) (beq_eq_false_iff_ne.2 k6) hw TW hi ta tb xa xb ia ib w
    · have E : foldN k a b = mixX k a b := by unfold foldN; rw [if_neg (fun h => b1 h.2)]
      rw [E]
      unfold mixX
      by_cases k6 : k = 6
      · subst k6
        rw [if_pos rfl]
        unfold subX
        rw [if_neg b1]
        unfold sApX at AP
        by_cases hs : (prtX a).1.k = 11 ∧ (prtX b).1.k = 11 ∧ (prtX a).1.n = (prtX b).1.n
        · rw [if_pos hs]
          unfold numX
          rw [tv_num]
          rw [decide_eq_true hs] at AP
          exact fp_sub1 _ _ ta tb xa xb true AP _ _ ia ib w
        · rw [if_neg hs, TT 6 (by omega)]
          rw [decide_eq_false hs] at AP
          exact fp_sub0 _ _ ta tb xa xb true AP _ _ ia ib w
      · by_cases k5 : k = 5
        · subst k5
          rw [if_neg k6, if_pos ⟨rfl, a1⟩]
          exact fp_add1 _ a.n tb xb (AB a.n (by omega)) ta xa _ ia ib w
        · rw [if_neg k6, if_neg (fun h => k5 h.1), if_neg (fun h => k5 h.1), TT k hk]
          exact fp_oth k (beq_eq_false_iff_ne.2 k5) (beq_eq_false_iff_ne.2 k6) hi true false rfl ta tb xa xb _ _ ia ib w
  · have E : foldN k a b = mixX k a b := by unfold foldN; rw [if_neg (fun h => a1 h.1)]
    rw [E]
    unfold mixX
    rcases IB with ⟨b1, bn, ib⟩ | ⟨b1, ib⟩
    · by_cases k6 : k = 6
      · subst k6
        rw [if_pos rfl]
        unfold subX
        rw [if_pos b1]
        exact fp_sub2 _ b.n bn ta xa (AA (-b.n) (by omega)) tb xb _ ia ib w
      · by_cases k5 : k = 5
        · subst k5
          rw [if_neg k6, if_neg (fun h => a1 h.2), if_pos ⟨rfl, b1⟩]
          exact fp_add2 _ b.n ta xa (AA b.n (by omega)) tb xb _ ia ib w
        · rw [if_neg k6, if_neg (fun h => k5 h.1), if_neg (fun h => k5 h.1), TT k hk]
          exact fp_oth k (beq_eq_false_iff_ne.2 k5) (beq_eq_false_iff_ne.2 k6) hi false true rfl ta tb xa xb _ _ ia ib w
    · by_cases k6 : k = 6
      · subst k6
        rw [if_pos rfl]
        unfold subX
        rw [if_neg b1]
        unfold sApX at AP
        by_cases hs : (prtX a).1.k = 11 ∧ (prtX b).1.k = 11 ∧ (prtX a).1.n = (prtX b).1.n
        · rw [if_pos hs]
          unfold numX
          rw [tv_num]
          rw [decide_eq_true hs] at AP
          exact fp_sub1 _ _ ta tb xa xb false AP _ _ ia ib w
        · rw [if_neg hs, TT 6 (by omega)]
          rw [decide_eq_false hs] at AP
          exact fp_sub0 _ _ ta tb xa xb false AP _ _ ia ib w
      · by_cases k5 : k = 5
        · subst k5
          rw [if_neg k6, if_neg (fun h => a1 h.2), if_neg (fun h => b1 h.2), TT 5 hk]
          exact fp_add0 ta tb xa xb _ _ ia ib w
        · rw [if_neg k6, if_neg (fun h => k5 h.1), if_neg (fun h => k5 h.1), TT k hk]
          exact fp_oth k (beq_eq_false_iff_ne.2 k5) (beq_eq_false_iff_ne.2 k6) hi false false rfl ta tb xa xb _ _ ia ib w
end Go.Proofs.YtkolflcjkofleaaDoor

namespace Go.Proofs.YtkolflcjkofleaaDoor
open Go.ChangeShapes Go.WideShapes Go.ChangeAt Go.RowKit
set_option linter.unusedVariables false
set_option maxRecDepth 8000
set_option linter.unusedSimpArgs false

def Up (w : World) (b : Nat) : Prop := w.heap.size ≤ b
def FoR (e : Ex) : Prop := ∀ (b : Option Addr) (cap : Nat) (w : World), RdX w 0 e b → Calls Tryd.prog 53 #[.agg (e.cs b cap)] w (GiR (foldX e) (Up w) w)
theorem up_ow {w : World} {b : Nat} (h : w.heap.size + 2 ≤ b) : Ow w (Up w) b := ⟨Nat.le_trans (Nat.le_add_right _ _) h, .inr h⟩
set_option maxHeartbeats 4000000 in
theorem foldS_leaf (k n : Int) (s : ByteArray) (hs : s.size ≤ 1048576) : FoR ⟨k, n, s, []⟩ := by
  intro b cap w hr
  rw [fold_leaf]
  have X0 := hide (Bx.new w #[.int .i64 k, .int .i64 n, .string s, .slice b 0 cap])
  have CP := hide (copyS_any ⟨k, n, s, []⟩ b cap _ (hr.later (unhide X0).bel) (by rw [sz_leaf]; exact hs))
  generalize hX : GiR ⟨k, n, s, []⟩ (Up w) w = X
  have HX := hide hX
  unfold GiR Ex.cs at CP
  show Calls Tryd.prog 53 #[.agg #[.int .i64 k, .int .i64 n, .string s, .slice b 0 cap]] w X
  clear hX hr
  go_enter Tryd.func53, Tryd.ntmps53
  go_wp2_with fail
  generalize (w.alloc (.cells #[.int .i64 k, .int .i64 n, .string s, .slice b 0 cap] 26)).alloc (.cells #[.int .i64 0, .int .i64 0, .string ⟨#[]⟩, .slice none 0 0] 26) = W at *
  refine (unhide CP).mono ?_
  rintro r w1 ⟨c, cp, rfl, hx, hb1⟩
  have X1 := hide ((unhide X0).later hb1)
  have A1 := hide (PX.leaf w1 (Ow w (Up w)) k n s c)
  clear hx hb1 X0 CP
  go_wp2_with (refine wpList_store_row rfl 26 _ _ rfl (w.heap.size + 1) #[.int .i64 k, .int .i64 n, .string s, .slice c 0 cp] rfl rfl 26 _ ((unhide X1).res) szE rfl (ex_one _ _ _ _ _ _) ?_)
  refine bodyPost_ret (results_cell_row (P := Tryd.prog) rfl _ _ (w.heap.size + 1) 26 #[.int .i64 k, .int .i64 n, .string s, .slice c 0 cp] (0, 0) _ rfl (setRow_heap _ _ _ _ _ _ ((unhide X1).res)) Tryd.underlying26 rfl szE) rfl ?_
  rw [← unhide HX]
  exact Bx.end (x := ⟨k, n, s, []⟩) (unhide X1) (unhide A1) _
theorem RdX.at {w : World} {e : Ex} {a : Option Addr} (h : RdX w 0 e a) (hl : e.l ≠ []) : ∃ p off, a = some ⟨p, off, none⟩ ∧ p < w.heap.size ∧ ∀ i, i < e.l.length → OneX w 0 p (off + i * 4) (xAt e.l i) := by
  rcases (RdX_eq _ _ _ _).1 h with h0 | ⟨p, off, ha, _, hp, hc⟩
  · exact absurd h0 hl
  · exact ⟨p, off, ha, hp, hc⟩
set_option maxHeartbeats 4000000 in
theorem foldS_neg1 (a : Ex) (ih : FoR a) (hk : ((foldX a).k == 1) = true) (hn : 0 ≤ (foldX a).n ∧ (foldX a).n ≤ 65535 ∨ (foldX a).k ≠ 1) : FoR ⟨4, 0, ⟨#[]⟩, [a]⟩ := by
  intro b cap w hr
  rw [fold_neg]
  obtain ⟨p, off, rfl, hpl, hc⟩ := hr.at (by simp)
  obtain ⟨c0, c1, c2, q0, qp0, c3, r0⟩ := hc 0 (by simp)
  have X0 := hide (Bx.new w #[.int .i64 4, .int .i64 0, .string ⟨#[]⟩, .slice (some ⟨p, off, none⟩) 1 cap])
  have IH := hide (ih q0 qp0 _ (RdX.later r0 (unhide X0).bel))
  have d0 := ((unhide X0).bel.cell (p := ⟨p, off + 0 * 4, none⟩) hpl).trans c0
  have d1 := ((unhide X0).bel.cell (p := ⟨p, off + 0 * 4 + 1, none⟩) hpl).trans c1
  have d2 := ((unhide X0).bel.cell (p := ⟨p, off + 0 * 4 + 2, none⟩) hpl).trans c2
  have d3 := ((unhide X0).bel.cell (p := ⟨p, off + 0 * 4 + 3, none⟩) hpl).trans c3
  simp only [Nat.zero_mul, Nat.add_zero] at d0 d1 d2 d3
  have EQ := hide (show negX (foldX a) = numX (-(foldX a).n) by unfold negX; rw [if_pos (beq_iff_eq.1 hk)])
  rw [unhide EQ]
  have xa : xAt (Ex.mk 4 0 ⟨#[]⟩ [a]).l 0 = a := rfl
  rw [xa] at d0 d1 d2 d3
  have hn2 : 0 ≤ (foldX a).n ∧ (foldX a).n ≤ 65535 := hn.resolve_right (fun h => h (beq_iff_eq.1 hk))
  generalize hX : GiR _ (Up w) w = X
  have HX := hide hX
  unfold GiR Ex.cs at IH
  show Calls Tryd.prog 53 #[.agg #[.int .i64 4, .int .i64 0, .string ⟨#[]⟩, .slice (some ⟨p, off, none⟩) 1 cap]] w X
  generalize foldX a = x at *
  clear hX hr hc c0 c1 c2 c3 r0 ih EQ hn xa
  go_enter Tryd.func53, Tryd.ntmps53
  go_wp2_with fail
  generalize (w.alloc (.cells #[.int .i64 4, .int .i64 0, .string ⟨#[]⟩, .slice (some ⟨p, off, none⟩) 1 cap] 26)).alloc (.cells #[.int .i64 0, .int .i64 0, .string ⟨#[]⟩, .slice none 0 0] 26) = W at *
  clear d0 d1 d2 d3
  refine (unhide IH).mono ?_
  rintro r w1 ⟨ca, cpa, rfl, hx, hb1⟩
  have hb2 := below_new w1 (.cells #[.int .i64 x.k, .int .i64 x.n, .string x.s, .slice ca x.l.length cpa] 26)
  have hb12 := hb1.trans (hb2.mono hb1.size)
  have X2 := hide ((unhide X0).later hb12)
  have hzW := (unhide X0).lt
  have A1 := (show PX w1 (Ow w (Up w)) x ca from hx.mono (fun b (h : W.heap.size ≤ b) => up_ow (Nat.le_trans hzW h)))
  have A2 := hide (A1.later hb2)
  have G2 := hide (show (w1.alloc (.cells #[.int .i64 x.k, .int .i64 x.n, .string x.s, .slice ca x.l.length cpa] 26)).heap[w1.heap.size]? = some (.cells #[.int .i64 x.k, .int .i64 x.n, .string x.s, .slice ca x.l.length cpa] 26 (0, 0)) from Array.getElem?_push_size)
  have y0 := Lib.cell_of_heap (unhide G2) 0
  have y1 := Lib.cell_of_heap (unhide G2) 1
  have z0 := Lib.cell_of_heap (unhide X2).box 0
  clear hx hb1 hb2 hb12 A1 X0 IH
  go_wp2_with fail
  generalize w1.alloc (.cells #[.int .i64 x.k, .int .i64 x.n, .string x.s, .slice ca x.l.length cpa] 26) = w2 at *
  clear y0 y1 z0
  refine (numD (-x.n) w2).mono ?_
  rintro r w3 ⟨rfl, hb3⟩
  have X3 := hide ((unhide X2).later hb3)
  have A3 := hide (PX.leaf w3 (Ow w (Up w)) 1 (-x.n % 65536) (⟨#[]⟩ : ByteArray) none)
  clear hb3 X2 A2 G2
  go_wp2_with (refine wpList_store_row rfl 26 _ _ rfl (w.heap.size + 1) #[.int .i64 1, .int .i64 (-x.n % 65536), .string ⟨#[]⟩, .slice none 0 0] rfl rfl 26 _ ((unhide X3).res) szE rfl (ex_one _ _ _ _ _ _) ?_)
  refine bodyPost_ret (results_cell_row (P := Tryd.prog) rfl _ _ (w.heap.size + 1) 26 #[.int .i64 1, .int .i64 (-x.n % 65536), .string ⟨#[]⟩, .slice none 0 0] (0, 0) _ rfl (setRow_heap _ _ _ _ _ _ ((unhide X3).res)) Tryd.underlying26 rfl szE) rfl ?_
  rw [← unhide HX]
  exact Bx.end (x := numX (-x.n)) (unhide X3) (unhide A3) _
set_option maxHeartbeats 4000000 in
theorem foldS_neg0 (a : Ex) (ih : FoR a) (hk : ((foldX a).k == 1) = false) (hn : 0 ≤ (foldX a).n ∧ (foldX a).n ≤ 65535 ∨ (foldX a).k ≠ 1) : FoR ⟨4, 0, ⟨#[]⟩, [a]⟩ := by
  intro b cap w hr
  rw [fold_neg]
  obtain ⟨p, off, rfl, hpl, hc⟩ := hr.at (by simp)
  obtain ⟨c0, c1, c2, q0, qp0, c3, r0⟩ := hc 0 (by simp)
  have X0 := hide (Bx.new w #[.int .i64 4, .int .i64 0, .string ⟨#[]⟩, .slice (some ⟨p, off, none⟩) 1 cap])
  have IH := hide (ih q0 qp0 _ (RdX.later r0 (unhide X0).bel))
  have d0 := ((unhide X0).bel.cell (p := ⟨p, off + 0 * 4, none⟩) hpl).trans c0
  have d1 := ((unhide X0).bel.cell (p := ⟨p, off + 0 * 4 + 1, none⟩) hpl).trans c1
  have d2 := ((unhide X0).bel.cell (p := ⟨p, off + 0 * 4 + 2, none⟩) hpl).trans c2
  have d3 := ((unhide X0).bel.cell (p := ⟨p, off + 0 * 4 + 3, none⟩) hpl).trans c3
  simp only [Nat.zero_mul, Nat.add_zero] at d0 d1 d2 d3
  have EQ := hide (show negX (foldX a) = ⟨4, 0, ⟨#[]⟩, [foldX a]⟩ by unfold negX; rw [if_neg (beq_eq_false_iff_ne.1 hk)]; rfl)
  rw [unhide EQ]
  have xa : xAt (Ex.mk 4 0 ⟨#[]⟩ [a]).l 0 = a := rfl
  rw [xa] at d0 d1 d2 d3
  have hn2 : True := trivial
  generalize hX : GiR _ (Up w) w = X
  have HX := hide hX
  unfold GiR Ex.cs at IH
  show Calls Tryd.prog 53 #[.agg #[.int .i64 4, .int .i64 0, .string ⟨#[]⟩, .slice (some ⟨p, off, none⟩) 1 cap]] w X
  generalize foldX a = x at *
  clear hX hr hc c0 c1 c2 c3 r0 ih EQ hn xa
  go_enter Tryd.func53, Tryd.ntmps53
  go_wp2_with fail
  generalize (w.alloc (.cells #[.int .i64 4, .int .i64 0, .string ⟨#[]⟩, .slice (some ⟨p, off, none⟩) 1 cap] 26)).alloc (.cells #[.int .i64 0, .int .i64 0, .string ⟨#[]⟩, .slice none 0 0] 26) = W at *
  clear d0 d1 d2 d3
  refine (unhide IH).mono ?_
  rintro r w1 ⟨ca, cpa, rfl, hx, hb1⟩
  have hb2 := below_new w1 (.cells #[.int .i64 x.k, .int .i64 x.n, .string x.s, .slice ca x.l.length cpa] 26)
  have hb12 := hb1.trans (hb2.mono hb1.size)
  have X2 := hide ((unhide X0).later hb12)
  have hzW := (unhide X0).lt
  have A1 := (show PX w1 (Ow w (Up w)) x ca from hx.mono (fun b (h : W.heap.size ≤ b) => up_ow (Nat.le_trans hzW h)))
  have A2 := hide (A1.later hb2)
  have G2 := hide (show (w1.alloc (.cells #[.int .i64 x.k, .int .i64 x.n, .string x.s, .slice ca x.l.length cpa] 26)).heap[w1.heap.size]? = some (.cells #[.int .i64 x.k, .int .i64 x.n, .string x.s, .slice ca x.l.length cpa] 26 (0, 0)) from Array.getElem?_push_size)
  have y0 := Lib.cell_of_heap (unhide G2) 0
  have y1 := Lib.cell_of_heap (unhide G2) 1
  have z0 := Lib.cell_of_heap (unhide X2).box 0
  clear hx hb1 hb2 hb12 A1 X0 IH
  have hb3 := below_new (w1.alloc (.cells #[.int .i64 x.k, .int .i64 x.n, .string x.s, .slice ca x.l.length cpa] 26)) (.cells #[.int .i64 x.k, .int .i64 x.n, .string x.s, .slice ca x.l.length cpa] 26)
  have X3 := hide ((unhide X2).later hb3)
  have hz3 : (w1.alloc (.cells #[.int .i64 x.k, .int .i64 x.n, .string x.s, .slice ca x.l.length cpa] 26)).heap.size = w1.heap.size + 1 := by simp
  have A3' := (show PX ((w1.alloc (.cells #[.int .i64 x.k, .int .i64 x.n, .string x.s, .slice ca x.l.length cpa] 26)).alloc (.cells #[.int .i64 x.k, .int .i64 x.n, .string x.s, .slice ca x.l.length cpa] 26)) (Ow w (Up w)) ⟨4, 0, ⟨#[]⟩, [x]⟩ (some ⟨(w1.alloc (.cells #[.int .i64 x.k, .int .i64 x.n, .string x.s, .slice ca x.l.length cpa] 26)).heap.size, 0, none⟩) from (unhide A2).one (up_ow (unhide X2).lt) 4 0 ⟨#[]⟩ 26)
  rw [hz3] at A3'
  have A3 := hide A3'
  clear hb3 hz3 A3'
  go_wp2_with (first | (refine wpList_load_row rfl 26 _ rfl w1.heap.size rfl 26 #[.int .i64 x.k, .int .i64 x.n, .string x.s, .slice ca x.l.length cpa] (0, 0) _ (unhide G2) Tryd.underlying26 rfl (by kernel_rfl) ?_) | (refine wpList_store_row rfl 26 _ _ rfl (w.heap.size + 1) #[.int .i64 4, .int .i64 0, .string ⟨#[]⟩, .slice (some ⟨w1.heap.size + 1, 0, none⟩) 1 1] rfl rfl 26 _ ((unhide X3).res) szE rfl (ex_one _ _ _ _ _ _) ?_))
  refine bodyPost_ret (results_cell_row (P := Tryd.prog) rfl _ _ (w.heap.size + 1) 26 #[.int .i64 4, .int .i64 0, .string ⟨#[]⟩, .slice (some ⟨w1.heap.size + 1, 0, none⟩) 1 1] (0, 0) _ rfl (setRow_heap _ _ _ _ _ _ ((unhide X3).res)) Tryd.underlying26 rfl szE) rfl ?_
  rw [← unhide HX]
  exact Bx.end (x := ⟨4, 0, ⟨#[]⟩, [x]⟩) (unhide X3) (unhide A3) _
end Go.Proofs.YtkolflcjkofleaaDoor

namespace Go.Proofs.YtkolflcjkofleaaDoor
open Go.ChangeShapes Go.WideShapes Go.ChangeAt Go.RowKit
set_option linter.unusedVariables false
set_option maxRecDepth 8000
set_option linter.unusedSimpArgs false

set_option maxHeartbeats 8000000 in
theorem foldS_sub0 {d : Nat} (k : Int) (hk : 5 ≤ k ∧ k ≤ 10) (a b : Ex) (iha : FoR a) (ihb : FoR b) (oa : okF (d + 1) false (foldX a) = true) (ob : okF (d + 1) false (foldX b) = true) (f0 : ((foldX a).k == 1) = false) (g6 : (k == 6) = true) : FoR ⟨k, 0, ⟨#[]⟩, [a, b]⟩ := by
  intro bb cap w hr
  rw [fold_two]
  obtain ⟨p, off, rfl, hpl, hc⟩ := hr.at (by simp)
  obtain ⟨c0, c1, c2, q0, qp0, c3, r0⟩ := hc 0 (by simp)
  obtain ⟨e0, e1, e2, q1, qp1, e3, r1⟩ := hc 1 (by simp)
  have xa : xAt (Ex.mk k 0 ⟨#[]⟩ [a, b]).l 0 = a := rfl
  have xb : xAt (Ex.mk k 0 ⟨#[]⟩ [a, b]).l 1 = b := rfl
  rw [xa] at c0 c1 c2 c3 r0
  rw [xb] at e0 e1 e2 e3 r1
  simp only [Nat.zero_mul, Nat.add_zero, Nat.one_mul] at c0 c1 c2 c3 e0 e1 e2 e3
  have X0 := hide (Bx.new w #[.int .i64 k, .int .i64 0, .string ⟨#[]⟩, .slice (some ⟨p, off, none⟩) 2 cap])
  have IA := hide (iha q0 qp0 _ (RdX.later r0 (unhide X0).bel))
  have IB := hide (fun wr (h : Below w.heap.size w wr) => ihb q1 qp1 wr (RdX.later r1 h))
  have d0 := ((unhide X0).bel.cell (p := ⟨p, off, none⟩) hpl).trans c0
  have d1 := ((unhide X0).bel.cell (p := ⟨p, off + 1, none⟩) hpl).trans c1
  have d2 := ((unhide X0).bel.cell (p := ⟨p, off + 2, none⟩) hpl).trans c2
  have d3 := ((unhide X0).bel.cell (p := ⟨p, off + 3, none⟩) hpl).trans c3
  have E0' := hide (fun wr (h : Below w.heap.size w wr) => (h.cell (p := ⟨p, off + 4, none⟩) hpl).trans e0)
  have E1' := hide (fun wr (h : Below w.heap.size w wr) => (h.cell (p := ⟨p, off + 4 + 1, none⟩) hpl).trans e1)
  have E2' := hide (fun wr (h : Below w.heap.size w wr) => (h.cell (p := ⟨p, off + 4 + 2, none⟩) hpl).trans e2)
  have E3' := hide (fun wr (h : Below w.heap.size w wr) => (h.cell (p := ⟨p, off + 4 + 3, none⟩) hpl).trans e3)
  have g4 : (k == 4) = false := beq_eq_false_iff_ne.2 (by omega)
  have OA := hide oa
  have OB := hide ob
  have ia : 0 ≤ (foldX a).n ∧ (foldX a).n ≤ 65535 ∨ (foldX a).k ≠ 1 := by
    by_cases h : (foldX a).k = 1
    · obtain ⟨m, hm, e⟩ := ok_k1 oa h; rw [e]; exact .inl hm
    · exact .inr h
  have ib : 0 ≤ (foldX b).n ∧ (foldX b).n ≤ 65535 ∨ (foldX b).k ≠ 1 := by
    by_cases h : (foldX b).k = 1
    · obtain ⟨m, hm, e⟩ := ok_k1 ob h; rw [e]; exact .inl hm
    · exact .inr h
  have EQ := hide (show foldN k (foldX a) (foldX b) = subX (foldX a) (foldX b) by unfold foldN mixX; rw [if_neg (fun h => by have := beq_eq_false_iff_ne.1 f0; exact this h.1), if_pos (beq_iff_eq.1 g6)])
  rw [unhide EQ]
  generalize hX : GiR _ (Up w) w = X
  have HX := hide hX
  unfold GiR Ex.cs at IA IB
  show Calls Tryd.prog 53 #[.agg #[.int .i64 k, .int .i64 0, .string ⟨#[]⟩, .slice (some ⟨p, off, none⟩) 2 cap]] w X
  generalize (foldX a) = x at *
  generalize (foldX b) = y at *
  clear hX hr hc c0 c1 c2 c3 e0 e1 e2 e3 r0 r1 iha ihb EQ xa xb oa ob
  go_enter Tryd.func53, Tryd.ntmps53
  go_wp2_with fail
  generalize (w.alloc (.cells #[.int .i64 k, .int .i64 0, .string ⟨#[]⟩, .slice (some ⟨p, off, none⟩) 2 cap] 26)).alloc (.cells #[.int .i64 0, .int .i64 0, .string ⟨#[]⟩, .slice none 0 0] 26) = W at *
  clear d0 d1 d2 d3
  refine (unhide IA).mono ?_
  rintro r w1 ⟨ca, cpa, rfl, hx, hb1⟩
  have hb2 := below_new w1 (.cells #[.int .i64 x.k, .int .i64 x.n, .string x.s, .slice ca x.l.length cpa] 26)
  have hb12 := hb1.trans (hb2.mono hb1.size)
  have X2 := hide ((unhide X0).later hb12)
  have hzW := (unhide X0).lt
  have A2 := hide (hx.low.later hb2)
  have G2 := hide (show (w1.alloc (.cells #[.int .i64 x.k, .int .i64 x.n, .string x.s, .slice ca x.l.length cpa] 26)).heap[w1.heap.size]? = some (.cells #[.int .i64 x.k, .int .i64 x.n, .string x.s, .slice ca x.l.length cpa] 26 (0, 0)) from Array.getElem?_push_size)
  have z0 := Lib.cell_of_heap (unhide X2).box 0
  have z3 := Lib.cell_of_heap (unhide X2).box 3
  have d0 := unhide E0' _ (unhide X2).bel
  have d1 := unhide E1' _ (unhide X2).bel
  have d2 := unhide E2' _ (unhide X2).bel
  have d3 := unhide E3' _ (unhide X2).bel
  have IB2 := hide (unhide IB _ (unhide X2).bel)
  have S1 := hide hb1.size
  have hz12 : w1.heap.size < (w1.alloc (.cells #[.int .i64 x.k, .int .i64 x.n, .string x.s, .slice ca x.l.length cpa] 26)).heap.size := by simp
  have HZ2 := hide hz12
  clear hx hb1 hb2 hb12 X0 IA IB E0' E1' E2' E3' hz12
  go_wp2_with fail
  generalize w1.alloc (.cells #[.int .i64 x.k, .int .i64 x.n, .string x.s, .slice ca x.l.length cpa] 26) = w2 at *
  clear d0 d1 d2 d3 z0 z3
  refine (unhide IB2).mono ?_
  rintro r w3 ⟨cb, cpb, rfl, hy, hb3⟩
  have hb4 := below_new w3 (.cells #[.int .i64 y.k, .int .i64 y.n, .string y.s, .slice cb y.l.length cpb] 26)
  have hb34 := hb3.trans (hb4.mono hb3.size)
  have X4 := hide ((unhide X2).later hb34)
  have A4 := hide ((unhide A2).later hb34)
  have B4 := hide (hy.later hb4)
  have G4 := hide (row_keep (unhide G2) hb34)
  have K4 := hide (show (w3.alloc (.cells #[.int .i64 y.k, .int .i64 y.n, .string y.s, .slice cb y.l.length cpb] 26)).heap[w3.heap.size]? = some (.cells #[.int .i64 y.k, .int .i64 y.n, .string y.s, .slice cb y.l.length cpb] 26 (0, 0)) from Array.getElem?_push_size)
  have z0 := Lib.cell_of_heap (unhide X4).box 0
  have y0 := Lib.cell_of_heap (unhide G4) 0
  have y1 := Lib.cell_of_heap (unhide G4) 1
  have u0 := Lib.cell_of_heap (unhide K4) 0
  have u1 := Lib.cell_of_heap (unhide K4) 1
  have DJ := hide (show ∀ b, (Up W b ∧ b < w1.heap.size) → ¬ Up w2 b from fun b h k => by have := unhide HZ2; have h2 : w2.heap.size ≤ b := k; omega)
  have PR := hide (show ∀ b, (Up W b ∧ b < w1.heap.size) → Ow w (Up w) b from fun b h => up_ow (Nat.le_trans hzW h.1))
  have QR := hide (show ∀ b, Up w2 b → Ow w (Up w) b from fun b h => up_ow (Nat.le_trans (unhide X2).lt h))
  have HR := hide (show ∀ b, (w3.alloc (.cells #[.int .i64 y.k, .int .i64 y.n, .string y.s, .slice cb y.l.length cpb] 26)).heap.size ≤ b → Ow w (Up w) b from fun b h => up_ow (Nat.le_trans (unhide X4).lt h))
  clear hy hb3 hb4 hb34 X2 A2 G2 IB2
  have CL := hide (subS_any x y (unhide OA) (unhide OB) ca cb cpa cpb _ _ (Ow w (Up w)) (w3.alloc (.cells #[.int .i64 y.k, .int .i64 y.n, .string y.s, .slice cb y.l.length cpb] 26)) (unhide A4) (unhide B4) (unhide DJ) (unhide PR) (unhide QR) (unhide HR))
  unfold GiR Ex.cs at CL
  go_wp2_with (first | (refine wpList_load_row rfl 26 _ rfl w1.heap.size rfl 26 #[.int .i64 x.k, .int .i64 x.n, .string x.s, .slice ca x.l.length cpa] (0, 0) _ (unhide G4) Tryd.underlying26 rfl (by kernel_rfl) ?_) | (refine wpList_load_row rfl 26 _ rfl w3.heap.size rfl 26 #[.int .i64 y.k, .int .i64 y.n, .string y.s, .slice cb y.l.length cpb] (0, 0) _ (unhide K4) Tryd.underlying26 rfl (by kernel_rfl) ?_))
  generalize w3.alloc (.cells #[.int .i64 y.k, .int .i64 y.n, .string y.s, .slice cb y.l.length cpb] 26) = w4 at *
  clear z0 y0 y1 u0 u1
  refine (unhide CL).mono ?_
  rintro r w5 ⟨c5, cp5, rfl, hx5, hb5⟩
  have X5 := hide ((unhide X4).later hb5)
  have A5 := hide hx5
  clear hx5 hb5 X4 A4 B4 G4 K4 CL
  generalize subX x y = z at *
  go_wp2_with (refine wpList_store_row rfl 26 _ _ rfl (w.heap.size + 1) #[.int .i64 z.k, .int .i64 z.n, .string z.s, .slice c5 z.l.length cp5] rfl rfl 26 _ ((unhide X5).res) szE rfl (ex_one _ _ _ _ _ _) ?_)
  refine bodyPost_ret (results_cell_row (P := Tryd.prog) rfl _ _ (w.heap.size + 1) 26 #[.int .i64 z.k, .int .i64 z.n, .string z.s, .slice c5 z.l.length cp5] (0, 0) _ rfl (setRow_heap _ _ _ _ _ _ ((unhide X5).res)) Tryd.underlying26 rfl szE) rfl ?_
  rw [← unhide HX]
  exact (unhide X5).end (unhide A5) _
set_option maxHeartbeats 8000000 in
theorem foldS_mix0 {d : Nat} (k : Int) (hk : 5 ≤ k ∧ k ≤ 10) (a b : Ex) (iha : FoR a) (ihb : FoR b) (oa : okF (d + 1) false (foldX a) = true) (ob : okF (d + 1) false (foldX b) = true) (f0 : ((foldX a).k == 1) = false) (g6 : (k == 6) = false) (g5 : (k == 5) = false) : FoR ⟨k, 0, ⟨#[]⟩, [a, b]⟩ := by
  intro bb cap w hr
  rw [fold_two]
  obtain ⟨p, off, rfl, hpl, hc⟩ := hr.at (by simp)
  obtain ⟨c0, c1, c2, q0, qp0, c3, r0⟩ := hc 0 (by simp)
  obtain ⟨e0, e1, e2, q1, qp1, e3, r1⟩ := hc 1 (by simp)
  have xa : xAt (Ex.mk k 0 ⟨#[]⟩ [a, b]).l 0 = a := rfl
  have xb : xAt (Ex.mk k 0 ⟨#[]⟩ [a, b]).l 1 = b := rfl
  rw [xa] at c0 c1 c2 c3 r0
  rw [xb] at e0 e1 e2 e3 r1
  simp only [Nat.zero_mul, Nat.add_zero, Nat.one_mul] at c0 c1 c2 c3 e0 e1 e2 e3
  have X0 := hide (Bx.new w #[.int .i64 k, .int .i64 0, .string ⟨#[]⟩, .slice (some ⟨p, off, none⟩) 2 cap])
  have IA := hide (iha q0 qp0 _ (RdX.later r0 (unhide X0).bel))
  have IB := hide (fun wr (h : Below w.heap.size w wr) => ihb q1 qp1 wr (RdX.later r1 h))
  have d0 := ((unhide X0).bel.cell (p := ⟨p, off, none⟩) hpl).trans c0
  have d1 := ((unhide X0).bel.cell (p := ⟨p, off + 1, none⟩) hpl).trans c1
  have d2 := ((unhide X0).bel.cell (p := ⟨p, off + 2, none⟩) hpl).trans c2
  have d3 := ((unhide X0).bel.cell (p := ⟨p, off + 3, none⟩) hpl).trans c3
  have E0' := hide (fun wr (h : Below w.heap.size w wr) => (h.cell (p := ⟨p, off + 4, none⟩) hpl).trans e0)
  have E1' := hide (fun wr (h : Below w.heap.size w wr) => (h.cell (p := ⟨p, off + 4 + 1, none⟩) hpl).trans e1)
  have E2' := hide (fun wr (h : Below w.heap.size w wr) => (h.cell (p := ⟨p, off + 4 + 2, none⟩) hpl).trans e2)
  have E3' := hide (fun wr (h : Below w.heap.size w wr) => (h.cell (p := ⟨p, off + 4 + 3, none⟩) hpl).trans e3)
  have g4 : (k == 4) = false := beq_eq_false_iff_ne.2 (by omega)
  have OA := hide oa
  have OB := hide ob
  have ia : 0 ≤ (foldX a).n ∧ (foldX a).n ≤ 65535 ∨ (foldX a).k ≠ 1 := by
    by_cases h : (foldX a).k = 1
    · obtain ⟨m, hm, e⟩ := ok_k1 oa h; rw [e]; exact .inl hm
    · exact .inr h
  have ib : 0 ≤ (foldX b).n ∧ (foldX b).n ≤ 65535 ∨ (foldX b).k ≠ 1 := by
    by_cases h : (foldX b).k = 1
    · obtain ⟨m, hm, e⟩ := ok_k1 ob h; rw [e]; exact .inl hm
    · exact .inr h
  have EQ := hide (show foldN k (foldX a) (foldX b) = ⟨k, 0, ⟨#[]⟩, [(foldX a), (foldX b)]⟩ by unfold foldN mixX; rw [if_neg (fun h => by have := beq_eq_false_iff_ne.1 f0; exact this h.1), if_neg (beq_eq_false_iff_ne.1 g6), if_neg (fun h => beq_eq_false_iff_ne.1 g5 h.1), if_neg (fun h => beq_eq_false_iff_ne.1 g5 h.1)]; rfl)
  rw [unhide EQ]
  generalize hX : GiR _ (Up w) w = X
  have HX := hide hX
  unfold GiR Ex.cs at IA IB
  show Calls Tryd.prog 53 #[.agg #[.int .i64 k, .int .i64 0, .string ⟨#[]⟩, .slice (some ⟨p, off, none⟩) 2 cap]] w X
  generalize (foldX a) = x at *
  generalize (foldX b) = y at *
  clear hX hr hc c0 c1 c2 c3 e0 e1 e2 e3 r0 r1 iha ihb EQ xa xb oa ob
  go_enter Tryd.func53, Tryd.ntmps53
  go_wp2_with fail
  generalize (w.alloc (.cells #[.int .i64 k, .int .i64 0, .string ⟨#[]⟩, .slice (some ⟨p, off, none⟩) 2 cap] 26)).alloc (.cells #[.int .i64 0, .int .i64 0, .string ⟨#[]⟩, .slice none 0 0] 26) = W at *
  clear d0 d1 d2 d3
  refine (unhide IA).mono ?_
  rintro r w1 ⟨ca, cpa, rfl, hx, hb1⟩
  have hb2 := below_new w1 (.cells #[.int .i64 x.k, .int .i64 x.n, .string x.s, .slice ca x.l.length cpa] 26)
  have hb12 := hb1.trans (hb2.mono hb1.size)
  have X2 := hide ((unhide X0).later hb12)
  have hzW := (unhide X0).lt
  have A2 := hide (hx.low.later hb2)
  have G2 := hide (show (w1.alloc (.cells #[.int .i64 x.k, .int .i64 x.n, .string x.s, .slice ca x.l.length cpa] 26)).heap[w1.heap.size]? = some (.cells #[.int .i64 x.k, .int .i64 x.n, .string x.s, .slice ca x.l.length cpa] 26 (0, 0)) from Array.getElem?_push_size)
  have z0 := Lib.cell_of_heap (unhide X2).box 0
  have z3 := Lib.cell_of_heap (unhide X2).box 3
  have d0 := unhide E0' _ (unhide X2).bel
  have d1 := unhide E1' _ (unhide X2).bel
  have d2 := unhide E2' _ (unhide X2).bel
  have d3 := unhide E3' _ (unhide X2).bel
  have IB2 := hide (unhide IB _ (unhide X2).bel)
  have S1 := hide hb1.size
  have hz12 : w1.heap.size < (w1.alloc (.cells #[.int .i64 x.k, .int .i64 x.n, .string x.s, .slice ca x.l.length cpa] 26)).heap.size := by simp
  have HZ2 := hide hz12
  clear hx hb1 hb2 hb12 X0 IA IB E0' E1' E2' E3' hz12
  go_wp2_with fail
  generalize w1.alloc (.cells #[.int .i64 x.k, .int .i64 x.n, .string x.s, .slice ca x.l.length cpa] 26) = w2 at *
  clear d0 d1 d2 d3 z0 z3
  refine (unhide IB2).mono ?_
  rintro r w3 ⟨cb, cpb, rfl, hy, hb3⟩
  have hb4 := below_new w3 (.cells #[.int .i64 y.k, .int .i64 y.n, .string y.s, .slice cb y.l.length cpb] 26)
  have hb34 := hb3.trans (hb4.mono hb3.size)
  have X4 := hide ((unhide X2).later hb34)
  have A4 := hide ((unhide A2).later hb34)
  have B4 := hide (hy.later hb4)
  have G4 := hide (row_keep (unhide G2) hb34)
  have K4 := hide (show (w3.alloc (.cells #[.int .i64 y.k, .int .i64 y.n, .string y.s, .slice cb y.l.length cpb] 26)).heap[w3.heap.size]? = some (.cells #[.int .i64 y.k, .int .i64 y.n, .string y.s, .slice cb y.l.length cpb] 26 (0, 0)) from Array.getElem?_push_size)
  have z0 := Lib.cell_of_heap (unhide X4).box 0
  have y0 := Lib.cell_of_heap (unhide G4) 0
  have y1 := Lib.cell_of_heap (unhide G4) 1
  have u0 := Lib.cell_of_heap (unhide K4) 0
  have u1 := Lib.cell_of_heap (unhide K4) 1
  have DJ := hide (show ∀ b, (Up W b ∧ b < w1.heap.size) → ¬ Up w2 b from fun b h k => by have := unhide HZ2; have h2 : w2.heap.size ≤ b := k; omega)
  have PR := hide (show ∀ b, (Up W b ∧ b < w1.heap.size) → Ow w (Up w) b from fun b h => up_ow (Nat.le_trans hzW h.1))
  have QR := hide (show ∀ b, Up w2 b → Ow w (Up w) b from fun b h => up_ow (Nat.le_trans (unhide X2).lt h))
  have HR := hide (show ∀ b, (w3.alloc (.cells #[.int .i64 y.k, .int .i64 y.n, .string y.s, .slice cb y.l.length cpb] 26)).heap.size ≤ b → Ow w (Up w) b from fun b h => up_ow (Nat.le_trans (unhide X4).lt h))
  clear hy hb3 hb4 hb34 X2 A2 G2 IB2
  have hb5 := below_new (w3.alloc (.cells #[.int .i64 y.k, .int .i64 y.n, .string y.s, .slice cb y.l.length cpb] 26)) (.cells #[.int .i64 x.k, .int .i64 x.n, .string x.s, .slice ca x.l.length cpa, .int .i64 y.k, .int .i64 y.n, .string y.s, .slice cb y.l.length cpb] 26)
  have X5 := hide ((unhide X4).later hb5)
  have hz5 : (w3.alloc (.cells #[.int .i64 y.k, .int .i64 y.n, .string y.s, .slice cb y.l.length cpb] 26)).heap.size = w3.heap.size + 1 := by simp
  have N5' := (show PX ((w3.alloc (.cells #[.int .i64 y.k, .int .i64 y.n, .string y.s, .slice cb y.l.length cpb] 26)).alloc (.cells #[.int .i64 x.k, .int .i64 x.n, .string x.s, .slice ca x.l.length cpa, .int .i64 y.k, .int .i64 y.n, .string y.s, .slice cb y.l.length cpb] 26)) (Ow w (Up w)) ⟨k, 0, ⟨#[]⟩, [x, y]⟩ (some ⟨(w3.alloc (.cells #[.int .i64 y.k, .int .i64 y.n, .string y.s, .slice cb y.l.length cpb] 26)).heap.size, 0, none⟩) from (unhide A4).two (unhide B4) (unhide DJ) (unhide PR) (unhide QR) (unhide HR _ (Nat.le_refl _)) k 0 ⟨#[]⟩ 26)
  rw [hz5] at N5'
  have N5 := hide N5'
  clear hb5 N5' hz5
  go_wp2_with (first | (refine wpList_load_row rfl 26 _ rfl w1.heap.size rfl 26 #[.int .i64 x.k, .int .i64 x.n, .string x.s, .slice ca x.l.length cpa] (0, 0) _ (unhide G4) Tryd.underlying26 rfl (by kernel_rfl) ?_) | (refine wpList_load_row rfl 26 _ rfl w3.heap.size rfl 26 #[.int .i64 y.k, .int .i64 y.n, .string y.s, .slice cb y.l.length cpb] (0, 0) _ (unhide K4) Tryd.underlying26 rfl (by kernel_rfl) ?_) | (refine wpList_store_row rfl 26 _ _ rfl (w.heap.size + 1) #[.int .i64 k, .int .i64 0, .string ⟨#[]⟩, .slice (some ⟨w3.heap.size + 1, 0, none⟩) 2 2] rfl rfl 26 _ ((unhide X5).res) szE rfl (ex_one _ _ _ _ _ _) ?_))
  refine bodyPost_ret (results_cell_row (P := Tryd.prog) rfl _ _ (w.heap.size + 1) 26 #[.int .i64 k, .int .i64 0, .string ⟨#[]⟩, .slice (some ⟨w3.heap.size + 1, 0, none⟩) 2 2] (0, 0) _ rfl (setRow_heap _ _ _ _ _ _ ((unhide X5).res)) Tryd.underlying26 rfl szE) rfl ?_
  rw [← unhide HX]
  exact Bx.end (x := ⟨k, 0, ⟨#[]⟩, [x, y]⟩) (unhide X5) (unhide N5) _
set_option maxHeartbeats 8000000 in
theorem foldS_sub1 {d : Nat} (k : Int) (hk : 5 ≤ k ∧ k ≤ 10) (a b : Ex) (iha : FoR a) (ihb : FoR b) (oa : okF (d + 1) false (foldX a) = true) (ob : okF (d + 1) false (foldX b) = true) (f0 : ((foldX a).k == 1) = true) (f1 : ((foldX b).k == 1) = false) (g6 : (k == 6) = true) : FoR ⟨k, 0, ⟨#[]⟩, [a, b]⟩ := by
  intro bb cap w hr
  rw [fold_two]
  obtain ⟨p, off, rfl, hpl, hc⟩ := hr.at (by simp)
  obtain ⟨c0, c1, c2, q0, qp0, c3, r0⟩ := hc 0 (by simp)
  obtain ⟨e0, e1, e2, q1, qp1, e3, r1⟩ := hc 1 (by simp)
  have xa : xAt (Ex.mk k 0 ⟨#[]⟩ [a, b]).l 0 = a := rfl
  have xb : xAt (Ex.mk k 0 ⟨#[]⟩ [a, b]).l 1 = b := rfl
  rw [xa] at c0 c1 c2 c3 r0
  rw [xb] at e0 e1 e2 e3 r1
  simp only [Nat.zero_mul, Nat.add_zero, Nat.one_mul] at c0 c1 c2 c3 e0 e1 e2 e3
  have X0 := hide (Bx.new w #[.int .i64 k, .int .i64 0, .string ⟨#[]⟩, .slice (some ⟨p, off, none⟩) 2 cap])
  have IA := hide (iha q0 qp0 _ (RdX.later r0 (unhide X0).bel))
  have IB := hide (fun wr (h : Below w.heap.size w wr) => ihb q1 qp1 wr (RdX.later r1 h))
  have d0 := ((unhide X0).bel.cell (p := ⟨p, off, none⟩) hpl).trans c0
  have d1 := ((unhide X0).bel.cell (p := ⟨p, off + 1, none⟩) hpl).trans c1
  have d2 := ((unhide X0).bel.cell (p := ⟨p, off + 2, none⟩) hpl).trans c2
  have d3 := ((unhide X0).bel.cell (p := ⟨p, off + 3, none⟩) hpl).trans c3
  have E0' := hide (fun wr (h : Below w.heap.size w wr) => (h.cell (p := ⟨p, off + 4, none⟩) hpl).trans e0)
  have E1' := hide (fun wr (h : Below w.heap.size w wr) => (h.cell (p := ⟨p, off + 4 + 1, none⟩) hpl).trans e1)
  have E2' := hide (fun wr (h : Below w.heap.size w wr) => (h.cell (p := ⟨p, off + 4 + 2, none⟩) hpl).trans e2)
  have E3' := hide (fun wr (h : Below w.heap.size w wr) => (h.cell (p := ⟨p, off + 4 + 3, none⟩) hpl).trans e3)
  have g4 : (k == 4) = false := beq_eq_false_iff_ne.2 (by omega)
  have OA := hide oa
  have OB := hide ob
  have ia : 0 ≤ (foldX a).n ∧ (foldX a).n ≤ 65535 ∨ (foldX a).k ≠ 1 := by
    by_cases h : (foldX a).k = 1
    · obtain ⟨m, hm, e⟩ := ok_k1 oa h; rw [e]; exact .inl hm
    · exact .inr h
  have ib : 0 ≤ (foldX b).n ∧ (foldX b).n ≤ 65535 ∨ (foldX b).k ≠ 1 := by
    by_cases h : (foldX b).k = 1
    · obtain ⟨m, hm, e⟩ := ok_k1 ob h; rw [e]; exact .inl hm
    · exact .inr h
  have EQ := hide (show foldN k (foldX a) (foldX b) = subX (foldX a) (foldX b) by unfold foldN mixX; rw [if_neg (fun h => by have := beq_eq_false_iff_ne.1 f1; exact this h.2), if_pos (beq_iff_eq.1 g6)])
  rw [unhide EQ]
  generalize hX : GiR _ (Up w) w = X
  have HX := hide hX
  unfold GiR Ex.cs at IA IB
  show Calls Tryd.prog 53 #[.agg #[.int .i64 k, .int .i64 0, .string ⟨#[]⟩, .slice (some ⟨p, off, none⟩) 2 cap]] w X
  generalize (foldX a) = x at *
  generalize (foldX b) = y at *
  clear hX hr hc c0 c1 c2 c3 e0 e1 e2 e3 r0 r1 iha ihb EQ xa xb oa ob
  go_enter Tryd.func53, Tryd.ntmps53
  go_wp2_with fail
  generalize (w.alloc (.cells #[.int .i64 k, .int .i64 0, .string ⟨#[]⟩, .slice (some ⟨p, off, none⟩) 2 cap] 26)).alloc (.cells #[.int .i64 0, .int .i64 0, .string ⟨#[]⟩, .slice none 0 0] 26) = W at *
  clear d0 d1 d2 d3
  refine (unhide IA).mono ?_
  rintro r w1 ⟨ca, cpa, rfl, hx, hb1⟩
  have hb2 := below_new w1 (.cells #[.int .i64 x.k, .int .i64 x.n, .string x.s, .slice ca x.l.length cpa] 26)
  have hb12 := hb1.trans (hb2.mono hb1.size)
  have X2 := hide ((unhide X0).later hb12)
  have hzW := (unhide X0).lt
  have A2 := hide (hx.low.later hb2)
  have G2 := hide (show (w1.alloc (.cells #[.int .i64 x.k, .int .i64 x.n, .string x.s, .slice ca x.l.length cpa] 26)).heap[w1.heap.size]? = some (.cells #[.int .i64 x.k, .int .i64 x.n, .string x.s, .slice ca x.l.length cpa] 26 (0, 0)) from Array.getElem?_push_size)
  have z0 := Lib.cell_of_heap (unhide X2).box 0
  have z3 := Lib.cell_of_heap (unhide X2).box 3
  have d0 := unhide E0' _ (unhide X2).bel
  have d1 := unhide E1' _ (unhide X2).bel
  have d2 := unhide E2' _ (unhide X2).bel
  have d3 := unhide E3' _ (unhide X2).bel
  have IB2 := hide (unhide IB _ (unhide X2).bel)
  have S1 := hide hb1.size
  have hz12 : w1.heap.size < (w1.alloc (.cells #[.int .i64 x.k, .int .i64 x.n, .string x.s, .slice ca x.l.length cpa] 26)).heap.size := by simp
  have HZ2 := hide hz12
  clear hx hb1 hb2 hb12 X0 IA IB E0' E1' E2' E3' hz12
  go_wp2_with fail
  generalize w1.alloc (.cells #[.int .i64 x.k, .int .i64 x.n, .string x.s, .slice ca x.l.length cpa] 26) = w2 at *
  clear d0 d1 d2 d3 z0 z3
  refine (unhide IB2).mono ?_
  rintro r w3 ⟨cb, cpb, rfl, hy, hb3⟩
  have hb4 := below_new w3 (.cells #[.int .i64 y.k, .int .i64 y.n, .string y.s, .slice cb y.l.length cpb] 26)
  have hb34 := hb3.trans (hb4.mono hb3.size)
  have X4 := hide ((unhide X2).later hb34)
  have A4 := hide ((unhide A2).later hb34)
  have B4 := hide (hy.later hb4)
  have G4 := hide (row_keep (unhide G2) hb34)
  have K4 := hide (show (w3.alloc (.cells #[.int .i64 y.k, .int .i64 y.n, .string y.s, .slice cb y.l.length cpb] 26)).heap[w3.heap.size]? = some (.cells #[.int .i64 y.k, .int .i64 y.n, .string y.s, .slice cb y.l.length cpb] 26 (0, 0)) from Array.getElem?_push_size)
  have z0 := Lib.cell_of_heap (unhide X4).box 0
  have y0 := Lib.cell_of_heap (unhide G4) 0
  have y1 := Lib.cell_of_heap (unhide G4) 1
  have u0 := Lib.cell_of_heap (unhide K4) 0
  have u1 := Lib.cell_of_heap (unhide K4) 1
  have DJ := hide (show ∀ b, (Up W b ∧ b < w1.heap.size) → ¬ Up w2 b from fun b h k => by have := unhide HZ2; have h2 : w2.heap.size ≤ b := k; omega)
  have PR := hide (show ∀ b, (Up W b ∧ b < w1.heap.size) → Ow w (Up w) b from fun b h => up_ow (Nat.le_trans hzW h.1))
  have QR := hide (show ∀ b, Up w2 b → Ow w (Up w) b from fun b h => up_ow (Nat.le_trans (unhide X2).lt h))
  have HR := hide (show ∀ b, (w3.alloc (.cells #[.int .i64 y.k, .int .i64 y.n, .string y.s, .slice cb y.l.length cpb] 26)).heap.size ≤ b → Ow w (Up w) b from fun b h => up_ow (Nat.le_trans (unhide X4).lt h))
  clear hy hb3 hb4 hb34 X2 A2 G2 IB2
  have CL := hide (subS_any x y (unhide OA) (unhide OB) ca cb cpa cpb _ _ (Ow w (Up w)) (w3.alloc (.cells #[.int .i64 y.k, .int .i64 y.n, .string y.s, .slice cb y.l.length cpb] 26)) (unhide A4) (unhide B4) (unhide DJ) (unhide PR) (unhide QR) (unhide HR))
  unfold GiR Ex.cs at CL
  go_wp2_with (first | (refine wpList_load_row rfl 26 _ rfl w1.heap.size rfl 26 #[.int .i64 x.k, .int .i64 x.n, .string x.s, .slice ca x.l.length cpa] (0, 0) _ (unhide G4) Tryd.underlying26 rfl (by kernel_rfl) ?_) | (refine wpList_load_row rfl 26 _ rfl w3.heap.size rfl 26 #[.int .i64 y.k, .int .i64 y.n, .string y.s, .slice cb y.l.length cpb] (0, 0) _ (unhide K4) Tryd.underlying26 rfl (by kernel_rfl) ?_))
  generalize w3.alloc (.cells #[.int .i64 y.k, .int .i64 y.n, .string y.s, .slice cb y.l.length cpb] 26) = w4 at *
  clear z0 y0 y1 u0 u1
  refine (unhide CL).mono ?_
  rintro r w5 ⟨c5, cp5, rfl, hx5, hb5⟩
  have X5 := hide ((unhide X4).later hb5)
  have A5 := hide hx5
  clear hx5 hb5 X4 A4 B4 G4 K4 CL
  generalize subX x y = z at *
  go_wp2_with (refine wpList_store_row rfl 26 _ _ rfl (w.heap.size + 1) #[.int .i64 z.k, .int .i64 z.n, .string z.s, .slice c5 z.l.length cp5] rfl rfl 26 _ ((unhide X5).res) szE rfl (ex_one _ _ _ _ _ _) ?_)
  refine bodyPost_ret (results_cell_row (P := Tryd.prog) rfl _ _ (w.heap.size + 1) 26 #[.int .i64 z.k, .int .i64 z.n, .string z.s, .slice c5 z.l.length cp5] (0, 0) _ rfl (setRow_heap _ _ _ _ _ _ ((unhide X5).res)) Tryd.underlying26 rfl szE) rfl ?_
  rw [← unhide HX]
  exact (unhide X5).end (unhide A5) _
set_option maxHeartbeats 8000000 in
theorem foldS_mix1 {d : Nat} (k : Int) (hk : 5 ≤ k ∧ k ≤ 10) (a b : Ex) (iha : FoR a) (ihb : FoR b) (oa : okF (d + 1) false (foldX a) = true) (ob : okF (d + 1) false (foldX b) = true) (f0 : ((foldX a).k == 1) = true) (f1 : ((foldX b).k == 1) = false) (g6 : (k == 6) = false) (g5 : (k == 5) = false) : FoR ⟨k, 0, ⟨#[]⟩, [a, b]⟩ := by
  intro bb cap w hr
  rw [fold_two]
  obtain ⟨p, off, rfl, hpl, hc⟩ := hr.at (by simp)
  obtain ⟨c0, c1, c2, q0, qp0, c3, r0⟩ := hc 0 (by simp)
  obtain ⟨e0, e1, e2, q1, qp1, e3, r1⟩ := hc 1 (by simp)
  have xa : xAt (Ex.mk k 0 ⟨#[]⟩ [a, b]).l 0 = a := rfl
  have xb : xAt (Ex.mk k 0 ⟨#[]⟩ [a, b]).l 1 = b := rfl
  rw [xa] at c0 c1 c2 c3 r0
  rw [xb] at e0 e1 e2 e3 r1
  simp only [Nat.zero_mul, Nat.add_zero, Nat.one_mul] at c0 c1 c2 c3 e0 e1 e2 e3
  have X0 := hide (Bx.new w #[.int .i64 k, .int .i64 0, .string ⟨#[]⟩, .slice (some ⟨p, off, none⟩) 2 cap])
  have IA := hide (iha q0 qp0 _ (RdX.later r0 (unhide X0).bel))
  have IB := hide (fun wr (h : Below w.heap.size w wr) => ihb q1 qp1 wr (RdX.later r1 h))
  have d0 := ((unhide X0).bel.cell (p := ⟨p, off, none⟩) hpl).trans c0
  have d1 := ((unhide X0).bel.cell (p := ⟨p, off + 1, none⟩) hpl).trans c1
  have d2 := ((unhide X0).bel.cell (p := ⟨p, off + 2, none⟩) hpl).trans c2
  have d3 := ((unhide X0).bel.cell (p := ⟨p, off + 3, none⟩) hpl).trans c3
  have E0' := hide (fun wr (h : Below w.heap.size w wr) => (h.cell (p := ⟨p, off + 4, none⟩) hpl).trans e0)
  have E1' := hide (fun wr (h : Below w.heap.size w wr) => (h.cell (p := ⟨p, off + 4 + 1, none⟩) hpl).trans e1)
  have E2' := hide (fun wr (h : Below w.heap.size w wr) => (h.cell (p := ⟨p, off + 4 + 2, none⟩) hpl).trans e2)
  have E3' := hide (fun wr (h : Below w.heap.size w wr) => (h.cell (p := ⟨p, off + 4 + 3, none⟩) hpl).trans e3)
  have g4 : (k == 4) = false := beq_eq_false_iff_ne.2 (by omega)
  have OA := hide oa
  have OB := hide ob
  have ia : 0 ≤ (foldX a).n ∧ (foldX a).n ≤ 65535 ∨ (foldX a).k ≠ 1 := by
    by_cases h : (foldX a).k = 1
    · obtain ⟨m, hm, e⟩ := ok_k1 oa h; rw [e]; exact .inl hm
    · exact .inr h
  have ib : 0 ≤ (foldX b).n ∧ (foldX b).n ≤ 65535 ∨ (foldX b).k ≠ 1 := by
    by_cases h : (foldX b).k = 1
    · obtain ⟨m, hm, e⟩ := ok_k1 ob h; rw [e]; exact .inl hm
    · exact .inr h
  have EQ := hide (show foldN k (foldX a) (foldX b) = ⟨k, 0, ⟨#[]⟩, [(foldX a), (foldX b)]⟩ by unfold foldN mixX; rw [if_neg (fun h => by have := beq_eq_false_iff_ne.1 f1; exact this h.2), if_neg (beq_eq_false_iff_ne.1 g6), if_neg (fun h => beq_eq_false_iff_ne.1 g5 h.1), if_neg (fun h => beq_eq_false_iff_ne.1 g5 h.1)]; rfl)
  rw [unhide EQ]
  generalize hX : GiR _ (Up w) w = X
  have HX := hide hX
  unfold GiR Ex.cs at IA IB
  show Calls Tryd.prog 53 #[.agg #[.int .i64 k, .int .i64 0, .string ⟨#[]⟩, .slice (some ⟨p, off, none⟩) 2 cap]] w X
  generalize (foldX a) = x at *
  generalize (foldX b) = y at *
  clear hX hr hc c0 c1 c2 c3 e0 e1 e2 e3 r0 r1 iha ihb EQ xa xb oa ob
  go_enter Tryd.func53, Tryd.ntmps53
  go_wp2_with fail
  generalize (w.alloc (.cells #[.int .i64 k, .int .i64 0, .string ⟨#[]⟩, .slice (some ⟨p, off, none⟩) 2 cap] 26)).alloc (.cells #[.int .i64 0, .int .i64 0, .string ⟨#[]⟩, .slice none 0 0] 26) = W at *
  clear d0 d1 d2 d3
  refine (unhide IA).mono ?_
  rintro r w1 ⟨ca, cpa, rfl, hx, hb1⟩
  have hb2 := below_new w1 (.cells #[.int .i64 x.k, .int .i64 x.n, .string x.s, .slice ca x.l.length cpa] 26)
  have hb12 := hb1.trans (hb2.mono hb1.size)
  have X2 := hide ((unhide X0).later hb12)
  have hzW := (unhide X0).lt
  have A2 := hide (hx.low.later hb2)
  have G2 := hide (show (w1.alloc (.cells #[.int .i64 x.k, .int .i64 x.n, .string x.s, .slice ca x.l.length cpa] 26)).heap[w1.heap.size]? = some (.cells #[.int .i64 x.k, .int .i64 x.n, .string x.s, .slice ca x.l.length cpa] 26 (0, 0)) from Array.getElem?_push_size)
  have z0 := Lib.cell_of_heap (unhide X2).box 0
  have z3 := Lib.cell_of_heap (unhide X2).box 3
  have d0 := unhide E0' _ (unhide X2).bel
  have d1 := unhide E1' _ (unhide X2).bel
  have d2 := unhide E2' _ (unhide X2).bel
  have d3 := unhide E3' _ (unhide X2).bel
  have IB2 := hide (unhide IB _ (unhide X2).bel)
  have S1 := hide hb1.size
  have hz12 : w1.heap.size < (w1.alloc (.cells #[.int .i64 x.k, .int .i64 x.n, .string x.s, .slice ca x.l.length cpa] 26)).heap.size := by simp
  have HZ2 := hide hz12
  clear hx hb1 hb2 hb12 X0 IA IB E0' E1' E2' E3' hz12
  go_wp2_with fail
  generalize w1.alloc (.cells #[.int .i64 x.k, .int .i64 x.n, .string x.s, .slice ca x.l.length cpa] 26) = w2 at *
  clear d0 d1 d2 d3 z0 z3
  refine (unhide IB2).mono ?_
  rintro r w3 ⟨cb, cpb, rfl, hy, hb3⟩
  have hb4 := below_new w3 (.cells #[.int .i64 y.k, .int .i64 y.n, .string y.s, .slice cb y.l.length cpb] 26)
  have hb34 := hb3.trans (hb4.mono hb3.size)
  have X4 := hide ((unhide X2).later hb34)
  have A4 := hide ((unhide A2).later hb34)
  have B4 := hide (hy.later hb4)
  have G4 := hide (row_keep (unhide G2) hb34)
  have K4 := hide (show (w3.alloc (.cells #[.int .i64 y.k, .int .i64 y.n, .string y.s, .slice cb y.l.length cpb] 26)).heap[w3.heap.size]? = some (.cells #[.int .i64 y.k, .int .i64 y.n, .string y.s, .slice cb y.l.length cpb] 26 (0, 0)) from Array.getElem?_push_size)
  have z0 := Lib.cell_of_heap (unhide X4).box 0
  have y0 := Lib.cell_of_heap (unhide G4) 0
  have y1 := Lib.cell_of_heap (unhide G4) 1
  have u0 := Lib.cell_of_heap (unhide K4) 0
  have u1 := Lib.cell_of_heap (unhide K4) 1
  have DJ := hide (show ∀ b, (Up W b ∧ b < w1.heap.size) → ¬ Up w2 b from fun b h k => by have := unhide HZ2; have h2 : w2.heap.size ≤ b := k; omega)
  have PR := hide (show ∀ b, (Up W b ∧ b < w1.heap.size) → Ow w (Up w) b from fun b h => up_ow (Nat.le_trans hzW h.1))
  have QR := hide (show ∀ b, Up w2 b → Ow w (Up w) b from fun b h => up_ow (Nat.le_trans (unhide X2).lt h))
  have HR := hide (show ∀ b, (w3.alloc (.cells #[.int .i64 y.k, .int .i64 y.n, .string y.s, .slice cb y.l.length cpb] 26)).heap.size ≤ b → Ow w (Up w) b from fun b h => up_ow (Nat.le_trans (unhide X4).lt h))
  clear hy hb3 hb4 hb34 X2 A2 G2 IB2
  have hb5 := below_new (w3.alloc (.cells #[.int .i64 y.k, .int .i64 y.n, .string y.s, .slice cb y.l.length cpb] 26)) (.cells #[.int .i64 x.k, .int .i64 x.n, .string x.s, .slice ca x.l.length cpa, .int .i64 y.k, .int .i64 y.n, .string y.s, .slice cb y.l.length cpb] 26)
  have X5 := hide ((unhide X4).later hb5)
  have hz5 : (w3.alloc (.cells #[.int .i64 y.k, .int .i64 y.n, .string y.s, .slice cb y.l.length cpb] 26)).heap.size = w3.heap.size + 1 := by simp
  have N5' := (show PX ((w3.alloc (.cells #[.int .i64 y.k, .int .i64 y.n, .string y.s, .slice cb y.l.length cpb] 26)).alloc (.cells #[.int .i64 x.k, .int .i64 x.n, .string x.s, .slice ca x.l.length cpa, .int .i64 y.k, .int .i64 y.n, .string y.s, .slice cb y.l.length cpb] 26)) (Ow w (Up w)) ⟨k, 0, ⟨#[]⟩, [x, y]⟩ (some ⟨(w3.alloc (.cells #[.int .i64 y.k, .int .i64 y.n, .string y.s, .slice cb y.l.length cpb] 26)).heap.size, 0, none⟩) from (unhide A4).two (unhide B4) (unhide DJ) (unhide PR) (unhide QR) (unhide HR _ (Nat.le_refl _)) k 0 ⟨#[]⟩ 26)
  rw [hz5] at N5'
  have N5 := hide N5'
  clear hb5 N5' hz5
  go_wp2_with (first | (refine wpList_load_row rfl 26 _ rfl w1.heap.size rfl 26 #[.int .i64 x.k, .int .i64 x.n, .string x.s, .slice ca x.l.length cpa] (0, 0) _ (unhide G4) Tryd.underlying26 rfl (by kernel_rfl) ?_) | (refine wpList_load_row rfl 26 _ rfl w3.heap.size rfl 26 #[.int .i64 y.k, .int .i64 y.n, .string y.s, .slice cb y.l.length cpb] (0, 0) _ (unhide K4) Tryd.underlying26 rfl (by kernel_rfl) ?_) | (refine wpList_store_row rfl 26 _ _ rfl (w.heap.size + 1) #[.int .i64 k, .int .i64 0, .string ⟨#[]⟩, .slice (some ⟨w3.heap.size + 1, 0, none⟩) 2 2] rfl rfl 26 _ ((unhide X5).res) szE rfl (ex_one _ _ _ _ _ _) ?_))
  refine bodyPost_ret (results_cell_row (P := Tryd.prog) rfl _ _ (w.heap.size + 1) 26 #[.int .i64 k, .int .i64 0, .string ⟨#[]⟩, .slice (some ⟨w3.heap.size + 1, 0, none⟩) 2 2] (0, 0) _ rfl (setRow_heap _ _ _ _ _ _ ((unhide X5).res)) Tryd.underlying26 rfl szE) rfl ?_
  rw [← unhide HX]
  exact Bx.end (x := ⟨k, 0, ⟨#[]⟩, [x, y]⟩) (unhide X5) (unhide N5) _
set_option maxHeartbeats 8000000 in
theorem foldS_add1 {d : Nat} (k : Int) (hk : 5 ≤ k ∧ k ≤ 10) (a b : Ex) (iha : FoR a) (ihb : FoR b) (oa : okF (d + 1) false (foldX a) = true) (ob : okF (d + 1) false (foldX b) = true) (f0 : ((foldX a).k == 1) = true) (f1 : ((foldX b).k == 1) = false) (g6 : (k == 6) = false) (g5 : (k == 5) = true) : FoR ⟨k, 0, ⟨#[]⟩, [a, b]⟩ := by
  intro bb cap w hr
  rw [fold_two]
  obtain ⟨p, off, rfl, hpl, hc⟩ := hr.at (by simp)
  obtain ⟨c0, c1, c2, q0, qp0, c3, r0⟩ := hc 0 (by simp)
  obtain ⟨e0, e1, e2, q1, qp1, e3, r1⟩ := hc 1 (by simp)
  have xa : xAt (Ex.mk k 0 ⟨#[]⟩ [a, b]).l 0 = a := rfl
  have xb : xAt (Ex.mk k 0 ⟨#[]⟩ [a, b]).l 1 = b := rfl
  rw [xa] at c0 c1 c2 c3 r0
  rw [xb] at e0 e1 e2 e3 r1
  simp only [Nat.zero_mul, Nat.add_zero, Nat.one_mul] at c0 c1 c2 c3 e0 e1 e2 e3
  have X0 := hide (Bx.new w #[.int .i64 k, .int .i64 0, .string ⟨#[]⟩, .slice (some ⟨p, off, none⟩) 2 cap])
  have IA := hide (iha q0 qp0 _ (RdX.later r0 (unhide X0).bel))
  have IB := hide (fun wr (h : Below w.heap.size w wr) => ihb q1 qp1 wr (RdX.later r1 h))
  have d0 := ((unhide X0).bel.cell (p := ⟨p, off, none⟩) hpl).trans c0
  have d1 := ((unhide X0).bel.cell (p := ⟨p, off + 1, none⟩) hpl).trans c1
  have d2 := ((unhide X0).bel.cell (p := ⟨p, off + 2, none⟩) hpl).trans c2
  have d3 := ((unhide X0).bel.cell (p := ⟨p, off + 3, none⟩) hpl).trans c3
  have E0' := hide (fun wr (h : Below w.heap.size w wr) => (h.cell (p := ⟨p, off + 4, none⟩) hpl).trans e0)
  have E1' := hide (fun wr (h : Below w.heap.size w wr) => (h.cell (p := ⟨p, off + 4 + 1, none⟩) hpl).trans e1)
  have E2' := hide (fun wr (h : Below w.heap.size w wr) => (h.cell (p := ⟨p, off + 4 + 2, none⟩) hpl).trans e2)
  have E3' := hide (fun wr (h : Below w.heap.size w wr) => (h.cell (p := ⟨p, off + 4 + 3, none⟩) hpl).trans e3)
  have g4 : (k == 4) = false := beq_eq_false_iff_ne.2 (by omega)
  have OA := hide oa
  have OB := hide ob
  have ia : 0 ≤ (foldX a).n ∧ (foldX a).n ≤ 65535 ∨ (foldX a).k ≠ 1 := by
    by_cases h : (foldX a).k = 1
    · obtain ⟨m, hm, e⟩ := ok_k1 oa h; rw [e]; exact .inl hm
    · exact .inr h
  have ib : 0 ≤ (foldX b).n ∧ (foldX b).n ≤ 65535 ∨ (foldX b).k ≠ 1 := by
    by_cases h : (foldX b).k = 1
    · obtain ⟨m, hm, e⟩ := ok_k1 ob h; rw [e]; exact .inl hm
    · exact .inr h
  have EQ := hide (show foldN k (foldX a) (foldX b) = sumX (foldX b) (foldX a).n by unfold foldN mixX; rw [if_neg (fun h => by have := beq_eq_false_iff_ne.1 f1; exact this h.2), if_neg (beq_eq_false_iff_ne.1 g6), if_pos ⟨beq_iff_eq.1 g5, beq_iff_eq.1 f0⟩])
  rw [unhide EQ]
  generalize hX : GiR _ (Up w) w = X
  have HX := hide hX
  unfold GiR Ex.cs at IA IB
  show Calls Tryd.prog 53 #[.agg #[.int .i64 k, .int .i64 0, .string ⟨#[]⟩, .slice (some ⟨p, off, none⟩) 2 cap]] w X
  generalize (foldX a) = x at *
  generalize (foldX b) = y at *
  clear hX hr hc c0 c1 c2 c3 e0 e1 e2 e3 r0 r1 iha ihb EQ xa xb oa ob
  go_enter Tryd.func53, Tryd.ntmps53
  go_wp2_with fail
  generalize (w.alloc (.cells #[.int .i64 k, .int .i64 0, .string ⟨#[]⟩, .slice (some ⟨p, off, none⟩) 2 cap] 26)).alloc (.cells #[.int .i64 0, .int .i64 0, .string ⟨#[]⟩, .slice none 0 0] 26) = W at *
  clear d0 d1 d2 d3
  refine (unhide IA).mono ?_
  rintro r w1 ⟨ca, cpa, rfl, hx, hb1⟩
  have hb2 := below_new w1 (.cells #[.int .i64 x.k, .int .i64 x.n, .string x.s, .slice ca x.l.length cpa] 26)
  have hb12 := hb1.trans (hb2.mono hb1.size)
  have X2 := hide ((unhide X0).later hb12)
  have hzW := (unhide X0).lt
  have A2 := hide (hx.low.later hb2)
  have G2 := hide (show (w1.alloc (.cells #[.int .i64 x.k, .int .i64 x.n, .string x.s, .slice ca x.l.length cpa] 26)).heap[w1.heap.size]? = some (.cells #[.int .i64 x.k, .int .i64 x.n, .string x.s, .slice ca x.l.length cpa] 26 (0, 0)) from Array.getElem?_push_size)
  have z0 := Lib.cell_of_heap (unhide X2).box 0
  have z3 := Lib.cell_of_heap (unhide X2).box 3
  have d0 := unhide E0' _ (unhide X2).bel
  have d1 := unhide E1' _ (unhide X2).bel
  have d2 := unhide E2' _ (unhide X2).bel
  have d3 := unhide E3' _ (unhide X2).bel
  have IB2 := hide (unhide IB _ (unhide X2).bel)
  have S1 := hide hb1.size
  have hz12 : w1.heap.size < (w1.alloc (.cells #[.int .i64 x.k, .int .i64 x.n, .string x.s, .slice ca x.l.length cpa] 26)).heap.size := by simp
  have HZ2 := hide hz12
  clear hx hb1 hb2 hb12 X0 IA IB E0' E1' E2' E3' hz12
  go_wp2_with fail
  generalize w1.alloc (.cells #[.int .i64 x.k, .int .i64 x.n, .string x.s, .slice ca x.l.length cpa] 26) = w2 at *
  clear d0 d1 d2 d3 z0 z3
  refine (unhide IB2).mono ?_
  rintro r w3 ⟨cb, cpb, rfl, hy, hb3⟩
  have hb4 := below_new w3 (.cells #[.int .i64 y.k, .int .i64 y.n, .string y.s, .slice cb y.l.length cpb] 26)
  have hb34 := hb3.trans (hb4.mono hb3.size)
  have X4 := hide ((unhide X2).later hb34)
  have A4 := hide ((unhide A2).later hb34)
  have B4 := hide (hy.later hb4)
  have G4 := hide (row_keep (unhide G2) hb34)
  have K4 := hide (show (w3.alloc (.cells #[.int .i64 y.k, .int .i64 y.n, .string y.s, .slice cb y.l.length cpb] 26)).heap[w3.heap.size]? = some (.cells #[.int .i64 y.k, .int .i64 y.n, .string y.s, .slice cb y.l.length cpb] 26 (0, 0)) from Array.getElem?_push_size)
  have z0 := Lib.cell_of_heap (unhide X4).box 0
  have y0 := Lib.cell_of_heap (unhide G4) 0
  have y1 := Lib.cell_of_heap (unhide G4) 1
  have u0 := Lib.cell_of_heap (unhide K4) 0
  have u1 := Lib.cell_of_heap (unhide K4) 1
  have DJ := hide (show ∀ b, (Up W b ∧ b < w1.heap.size) → ¬ Up w2 b from fun b h k => by have := unhide HZ2; have h2 : w2.heap.size ≤ b := k; omega)
  have PR := hide (show ∀ b, (Up W b ∧ b < w1.heap.size) → Ow w (Up w) b from fun b h => up_ow (Nat.le_trans hzW h.1))
  have QR := hide (show ∀ b, Up w2 b → Ow w (Up w) b from fun b h => up_ow (Nat.le_trans (unhide X2).lt h))
  have HR := hide (show ∀ b, (w3.alloc (.cells #[.int .i64 y.k, .int .i64 y.n, .string y.s, .slice cb y.l.length cpb] 26)).heap.size ≤ b → Ow w (Up w) b from fun b h => up_ow (Nat.le_trans (unhide X4).lt h))
  clear hy hb3 hb4 hb34 X2 A2 G2 IB2
  have CL := hide (sumS_any y (unhide OB) cb cpb x.n (by have := ia.resolve_right (fun h => h (beq_iff_eq.1 f0)); omega) (Ow w (Up w)) (w3.alloc (.cells #[.int .i64 y.k, .int .i64 y.n, .string y.s, .slice cb y.l.length cpb] 26)) ((unhide B4).mono (unhide QR)) (unhide HR))
  unfold GiR Ex.cs at CL
  go_wp2_with (first | (refine wpList_load_row rfl 26 _ rfl w3.heap.size rfl 26 #[.int .i64 y.k, .int .i64 y.n, .string y.s, .slice cb y.l.length cpb] (0, 0) _ (unhide K4) Tryd.underlying26 rfl (by kernel_rfl) ?_))
  generalize w3.alloc (.cells #[.int .i64 y.k, .int .i64 y.n, .string y.s, .slice cb y.l.length cpb] 26) = w4 at *
  clear z0 y0 y1 u0 u1
  refine (unhide CL).mono ?_
  rintro r w5 ⟨c5, cp5, rfl, hx5, hb5⟩
  have X5 := hide ((unhide X4).later hb5)
  have A5 := hide hx5
  clear hx5 hb5 X4 A4 B4 G4 K4 CL
  generalize sumX y x.n = z at *
  go_wp2_with (refine wpList_store_row rfl 26 _ _ rfl (w.heap.size + 1) #[.int .i64 z.k, .int .i64 z.n, .string z.s, .slice c5 z.l.length cp5] rfl rfl 26 _ ((unhide X5).res) szE rfl (ex_one _ _ _ _ _ _) ?_)
  refine bodyPost_ret (results_cell_row (P := Tryd.prog) rfl _ _ (w.heap.size + 1) 26 #[.int .i64 z.k, .int .i64 z.n, .string z.s, .slice c5 z.l.length cp5] (0, 0) _ rfl (setRow_heap _ _ _ _ _ _ ((unhide X5).res)) Tryd.underlying26 rfl szE) rfl ?_
  rw [← unhide HX]
  exact (unhide X5).end (unhide A5) _
set_option maxHeartbeats 8000000 in
theorem foldS_add2 {d : Nat} (k : Int) (hk : 5 ≤ k ∧ k ≤ 10) (a b : Ex) (iha : FoR a) (ihb : FoR b) (oa : okF (d + 1) false (foldX a) = true) (ob : okF (d + 1) false (foldX b) = true) (f0 : ((foldX a).k == 1) = false) (f1 : ((foldX b).k == 1) = true) (g6 : (k == 6) = false) (g5 : (k == 5) = true) : FoR ⟨k, 0, ⟨#[]⟩, [a, b]⟩ := by
  intro bb cap w hr
  rw [fold_two]
  obtain ⟨p, off, rfl, hpl, hc⟩ := hr.at (by simp)
  obtain ⟨c0, c1, c2, q0, qp0, c3, r0⟩ := hc 0 (by simp)
  obtain ⟨e0, e1, e2, q1, qp1, e3, r1⟩ := hc 1 (by simp)
  have xa : xAt (Ex.mk k 0 ⟨#[]⟩ [a, b]).l 0 = a := rfl
  have xb : xAt (Ex.mk k 0 ⟨#[]⟩ [a, b]).l 1 = b := rfl
  rw [xa] at c0 c1 c2 c3 r0
  rw [xb] at e0 e1 e2 e3 r1
  simp only [Nat.zero_mul, Nat.add_zero, Nat.one_mul] at c0 c1 c2 c3 e0 e1 e2 e3
  have X0 := hide (Bx.new w #[.int .i64 k, .int .i64 0, .string ⟨#[]⟩, .slice (some ⟨p, off, none⟩) 2 cap])
  have IA := hide (iha q0 qp0 _ (RdX.later r0 (unhide X0).bel))
  have IB := hide (fun wr (h : Below w.heap.size w wr) => ihb q1 qp1 wr (RdX.later r1 h))
  have d0 := ((unhide X0).bel.cell (p := ⟨p, off, none⟩) hpl).trans c0
  have d1 := ((unhide X0).bel.cell (p := ⟨p, off + 1, none⟩) hpl).trans c1
  have d2 := ((unhide X0).bel.cell (p := ⟨p, off + 2, none⟩) hpl).trans c2
  have d3 := ((unhide X0).bel.cell (p := ⟨p, off + 3, none⟩) hpl).trans c3
  have E0' := hide (fun wr (h : Below w.heap.size w wr) => (h.cell (p := ⟨p, off + 4, none⟩) hpl).trans e0)
  have E1' := hide (fun wr (h : Below w.heap.size w wr) => (h.cell (p := ⟨p, off + 4 + 1, none⟩) hpl).trans e1)
  have E2' := hide (fun wr (h : Below w.heap.size w wr) => (h.cell (p := ⟨p, off + 4 + 2, none⟩) hpl).trans e2)
  have E3' := hide (fun wr (h : Below w.heap.size w wr) => (h.cell (p := ⟨p, off + 4 + 3, none⟩) hpl).trans e3)
  have g4 : (k == 4) = false := beq_eq_false_iff_ne.2 (by omega)
  have OA := hide oa
  have OB := hide ob
  have ia : 0 ≤ (foldX a).n ∧ (foldX a).n ≤ 65535 ∨ (foldX a).k ≠ 1 := by
    by_cases h : (foldX a).k = 1
    · obtain ⟨m, hm, e⟩ := ok_k1 oa h; rw [e]; exact .inl hm
    · exact .inr h
  have ib : 0 ≤ (foldX b).n ∧ (foldX b).n ≤ 65535 ∨ (foldX b).k ≠ 1 := by
    by_cases h : (foldX b).k = 1
    · obtain ⟨m, hm, e⟩ := ok_k1 ob h; rw [e]; exact .inl hm
    · exact .inr h
  have EQ := hide (show foldN k (foldX a) (foldX b) = sumX (foldX a) (foldX b).n by unfold foldN mixX; rw [if_neg (fun h => by have := beq_eq_false_iff_ne.1 f0; exact this h.1), if_neg (beq_eq_false_iff_ne.1 g6), if_neg (fun h => beq_eq_false_iff_ne.1 f0 h.2), if_pos ⟨beq_iff_eq.1 g5, beq_iff_eq.1 f1⟩])
  rw [unhide EQ]
  generalize hX : GiR _ (Up w) w = X
  have HX := hide hX
  unfold GiR Ex.cs at IA IB
  show Calls Tryd.prog 53 #[.agg #[.int .i64 k, .int .i64 0, .string ⟨#[]⟩, .slice (some ⟨p, off, none⟩) 2 cap]] w X
  generalize (foldX a) = x at *
  generalize (foldX b) = y at *
  clear hX hr hc c0 c1 c2 c3 e0 e1 e2 e3 r0 r1 iha ihb EQ xa xb oa ob
  go_enter Tryd.func53, Tryd.ntmps53
  go_wp2_with fail
  generalize (w.alloc (.cells #[.int .i64 k, .int .i64 0, .string ⟨#[]⟩, .slice (some ⟨p, off, none⟩) 2 cap] 26)).alloc (.cells #[.int .i64 0, .int .i64 0, .string ⟨#[]⟩, .slice none 0 0] 26) = W at *
  clear d0 d1 d2 d3
  refine (unhide IA).mono ?_
  rintro r w1 ⟨ca, cpa, rfl, hx, hb1⟩
  have hb2 := below_new w1 (.cells #[.int .i64 x.k, .int .i64 x.n, .string x.s, .slice ca x.l.length cpa] 26)
  have hb12 := hb1.trans (hb2.mono hb1.size)
  have X2 := hide ((unhide X0).later hb12)
  have hzW := (unhide X0).lt
  have A2 := hide (hx.low.later hb2)
  have G2 := hide (show (w1.alloc (.cells #[.int .i64 x.k, .int .i64 x.n, .string x.s, .slice ca x.l.length cpa] 26)).heap[w1.heap.size]? = some (.cells #[.int .i64 x.k, .int .i64 x.n, .string x.s, .slice ca x.l.length cpa] 26 (0, 0)) from Array.getElem?_push_size)
  have z0 := Lib.cell_of_heap (unhide X2).box 0
  have z3 := Lib.cell_of_heap (unhide X2).box 3
  have d0 := unhide E0' _ (unhide X2).bel
  have d1 := unhide E1' _ (unhide X2).bel
  have d2 := unhide E2' _ (unhide X2).bel
  have d3 := unhide E3' _ (unhide X2).bel
  have IB2 := hide (unhide IB _ (unhide X2).bel)
  have S1 := hide hb1.size
  have hz12 : w1.heap.size < (w1.alloc (.cells #[.int .i64 x.k, .int .i64 x.n, .string x.s, .slice ca x.l.length cpa] 26)).heap.size := by simp
  have HZ2 := hide hz12
  clear hx hb1 hb2 hb12 X0 IA IB E0' E1' E2' E3' hz12
  go_wp2_with fail
  generalize w1.alloc (.cells #[.int .i64 x.k, .int .i64 x.n, .string x.s, .slice ca x.l.length cpa] 26) = w2 at *
  clear d0 d1 d2 d3 z0 z3
  refine (unhide IB2).mono ?_
  rintro r w3 ⟨cb, cpb, rfl, hy, hb3⟩
  have hb4 := below_new w3 (.cells #[.int .i64 y.k, .int .i64 y.n, .string y.s, .slice cb y.l.length cpb] 26)
  have hb34 := hb3.trans (hb4.mono hb3.size)
  have X4 := hide ((unhide X2).later hb34)
  have A4 := hide ((unhide A2).later hb34)
  have B4 := hide (hy.later hb4)
  have G4 := hide (row_keep (unhide G2) hb34)
  have K4 := hide (show (w3.alloc (.cells #[.int .i64 y.k, .int .i64 y.n, .string y.s, .slice cb y.l.length cpb] 26)).heap[w3.heap.size]? = some (.cells #[.int .i64 y.k, .int .i64 y.n, .string y.s, .slice cb y.l.length cpb] 26 (0, 0)) from Array.getElem?_push_size)
  have z0 := Lib.cell_of_heap (unhide X4).box 0
  have y0 := Lib.cell_of_heap (unhide G4) 0
  have y1 := Lib.cell_of_heap (unhide G4) 1
  have u0 := Lib.cell_of_heap (unhide K4) 0
  have u1 := Lib.cell_of_heap (unhide K4) 1
  have DJ := hide (show ∀ b, (Up W b ∧ b < w1.heap.size) → ¬ Up w2 b from fun b h k => by have := unhide HZ2; have h2 : w2.heap.size ≤ b := k; omega)
  have PR := hide (show ∀ b, (Up W b ∧ b < w1.heap.size) → Ow w (Up w) b from fun b h => up_ow (Nat.le_trans hzW h.1))
  have QR := hide (show ∀ b, Up w2 b → Ow w (Up w) b from fun b h => up_ow (Nat.le_trans (unhide X2).lt h))
  have HR := hide (show ∀ b, (w3.alloc (.cells #[.int .i64 y.k, .int .i64 y.n, .string y.s, .slice cb y.l.length cpb] 26)).heap.size ≤ b → Ow w (Up w) b from fun b h => up_ow (Nat.le_trans (unhide X4).lt h))
  clear hy hb3 hb4 hb34 X2 A2 G2 IB2
  have CL := hide (sumS_any x (unhide OA) ca cpa y.n (by have := ib.resolve_right (fun h => h (beq_iff_eq.1 f1)); omega) (Ow w (Up w)) (w3.alloc (.cells #[.int .i64 y.k, .int .i64 y.n, .string y.s, .slice cb y.l.length cpb] 26)) ((unhide A4).mono (unhide PR)) (unhide HR))
  unfold GiR Ex.cs at CL
  go_wp2_with (first | (refine wpList_load_row rfl 26 _ rfl w1.heap.size rfl 26 #[.int .i64 x.k, .int .i64 x.n, .string x.s, .slice ca x.l.length cpa] (0, 0) _ (unhide G4) Tryd.underlying26 rfl (by kernel_rfl) ?_))
  generalize w3.alloc (.cells #[.int .i64 y.k, .int .i64 y.n, .string y.s, .slice cb y.l.length cpb] 26) = w4 at *
  clear z0 y0 y1 u0 u1
  refine (unhide CL).mono ?_
  rintro r w5 ⟨c5, cp5, rfl, hx5, hb5⟩
  have X5 := hide ((unhide X4).later hb5)
  have A5 := hide hx5
  clear hx5 hb5 X4 A4 B4 G4 K4 CL
  generalize sumX x y.n = z at *
  go_wp2_with (refine wpList_store_row rfl 26 _ _ rfl (w.heap.size + 1) #[.int .i64 z.k, .int .i64 z.n, .string z.s, .slice c5 z.l.length cp5] rfl rfl 26 _ ((unhide X5).res) szE rfl (ex_one _ _ _ _ _ _) ?_)
  refine bodyPost_ret (results_cell_row (P := Tryd.prog) rfl _ _ (w.heap.size + 1) 26 #[.int .i64 z.k, .int .i64 z.n, .string z.s, .slice c5 z.l.length cp5] (0, 0) _ rfl (setRow_heap _ _ _ _ _ _ ((unhide X5).res)) Tryd.underlying26 rfl szE) rfl ?_
  rw [← unhide HX]
  exact (unhide X5).end (unhide A5) _
set_option maxHeartbeats 8000000 in
theorem foldS_add0 {d : Nat} (k : Int) (hk : 5 ≤ k ∧ k ≤ 10) (a b : Ex) (iha : FoR a) (ihb : FoR b) (oa : okF (d + 1) false (foldX a) = true) (ob : okF (d + 1) false (foldX b) = true) (f0 : ((foldX a).k == 1) = false) (f1 : ((foldX b).k == 1) = false) (g6 : (k == 6) = false) (g5 : (k == 5) = true) : FoR ⟨k, 0, ⟨#[]⟩, [a, b]⟩ := by
  intro bb cap w hr
  rw [fold_two]
  obtain ⟨p, off, rfl, hpl, hc⟩ := hr.at (by simp)
  obtain ⟨c0, c1, c2, q0, qp0, c3, r0⟩ := hc 0 (by simp)
  obtain ⟨e0, e1, e2, q1, qp1, e3, r1⟩ := hc 1 (by simp)
  have xa : xAt (Ex.mk k 0 ⟨#[]⟩ [a, b]).l 0 = a := rfl
  have xb : xAt (Ex.mk k 0 ⟨#[]⟩ [a, b]).l 1 = b := rfl
  rw [xa] at c0 c1 c2 c3 r0
  rw [xb] at e0 e1 e2 e3 r1
  simp only [Nat.zero_mul, Nat.add_zero, Nat.one_mul] at c0 c1 c2 c3 e0 e1 e2 e3
  have X0 := hide (Bx.new w #[.int .i64 k, .int .i64 0, .string ⟨#[]⟩, .slice (some ⟨p, off, none⟩) 2 cap])
  have IA := hide (iha q0 qp0 _ (RdX.later r0 (unhide X0).bel))
  have IB := hide (fun wr (h : Below w.heap.size w wr) => ihb q1 qp1 wr (RdX.later r1 h))
  have d0 := ((unhide X0).bel.cell (p := ⟨p, off, none⟩) hpl).trans c0
  have d1 := ((unhide X0).bel.cell (p := ⟨p, off + 1, none⟩) hpl).trans c1
  have d2 := ((unhide X0).bel.cell (p := ⟨p, off + 2, none⟩) hpl).trans c2
  have d3 := ((unhide X0).bel.cell (p := ⟨p, off + 3, none⟩) hpl).trans c3
  have E0' := hide (fun wr (h : Below w.heap.size w wr) => (h.cell (p := ⟨p, off + 4, none⟩) hpl).trans e0)
  have E1' := hide (fun wr (h : Below w.heap.size w wr) => (h.cell (p := ⟨p, off + 4 + 1, none⟩) hpl).trans e1)
  have E2' := hide (fun wr (h : Below w.heap.size w wr) => (h.cell (p := ⟨p, off + 4 + 2, none⟩) hpl).trans e2)
  have E3' := hide (fun wr (h : Below w.heap.size w wr) => (h.cell (p := ⟨p, off + 4 + 3, none⟩) hpl).trans e3)
  have g4 : (k == 4) = false := beq_eq_false_iff_ne.2 (by omega)
  have OA := hide oa
  have OB := hide ob
  have ia : 0 ≤ (foldX a).n ∧ (foldX a).n ≤ 65535 ∨ (foldX a).k ≠ 1 := by
    by_cases h : (foldX a).k = 1
    · obtain ⟨m, hm, e⟩ := ok_k1 oa h; rw [e]; exact .inl hm
    · exact .inr h
  have ib : 0 ≤ (foldX b).n ∧ (foldX b).n ≤ 65535 ∨ (foldX b).k ≠ 1 := by
    by_cases h : (foldX b).k = 1
    · obtain ⟨m, hm, e⟩ := ok_k1 ob h; rw [e]; exact .inl hm
    · exact .inr h
  have EQ := hide (show foldN k (foldX a) (foldX b) = ⟨k, 0, ⟨#[]⟩, [(foldX a), (foldX b)]⟩ by unfold foldN mixX; rw [if_neg (fun h => by have := beq_eq_false_iff_ne.1 f0; exact this h.1), if_neg (beq_eq_false_iff_ne.1 g6), if_neg (fun h => beq_eq_false_iff_ne.1 f0 h.2), if_neg (fun h => beq_eq_false_iff_ne.1 f1 h.2)]; rfl)
  rw [unhide EQ]
  generalize hX : GiR _ (Up w) w = X
  have HX := hide hX
  unfold GiR Ex.cs at IA IB
  show Calls Tryd.prog 53 #[.agg #[.int .i64 k, .int .i64 0, .string ⟨#[]⟩, .slice (some ⟨p, off, none⟩) 2 cap]] w X
  generalize (foldX a) = x at *
  generalize (foldX b) = y at *
  clear hX hr hc c0 c1 c2 c3 e0 e1 e2 e3 r0 r1 iha ihb EQ xa xb oa ob
  go_enter Tryd.func53, Tryd.ntmps53
  go_wp2_with fail
  generalize (w.alloc (.cells #[.int .i64 k, .int .i64 0, .string ⟨#[]⟩, .slice (some ⟨p, off, none⟩) 2 cap] 26)).alloc (.cells #[.int .i64 0, .int .i64 0, .string ⟨#[]⟩, .slice none 0 0] 26) = W at *
  clear d0 d1 d2 d3
  refine (unhide IA).mono ?_
  rintro r w1 ⟨ca, cpa, rfl, hx, hb1⟩
  have hb2 := below_new w1 (.cells #[.int .i64 x.k, .int .i64 x.n, .string x.s, .slice ca x.l.length cpa] 26)
  have hb12 := hb1.trans (hb2.mono hb1.size)
  have X2 := hide ((unhide X0).later hb12)
  have hzW := (unhide X0).lt
  have A2 := hide (hx.low.later hb2)
  have G2 := hide (show (w1.alloc (.cells #[.int .i64 x.k, .int .i64 x.n, .string x.s, .slice ca x.l.length cpa] 26)).heap[w1.heap.size]? = some (.cells #[.int .i64 x.k, .int .i64 x.n, .string x.s, .slice ca x.l.length cpa] 26 (0, 0)) from Array.getElem?_push_size)
  have z0 := Lib.cell_of_heap (unhide X2).box 0
  have z3 := Lib.cell_of_heap (unhide X2).box 3
  have d0 := unhide E0' _ (unhide X2).bel
  have d1 := unhide E1' _ (unhide X2).bel
  have d2 := unhide E2' _ (unhide X2).bel
  have d3 := unhide E3' _ (unhide X2).bel
  have IB2 := hide (unhide IB _ (unhide X2).bel)
  have S1 := hide hb1.size
  have hz12 : w1.heap.size < (w1.alloc (.cells #[.int .i64 x.k, .int .i64 x.n, .string x.s, .slice ca x.l.length cpa] 26)).heap.size := by simp
  have HZ2 := hide hz12
  clear hx hb1 hb2 hb12 X0 IA IB E0' E1' E2' E3' hz12
  go_wp2_with fail
  generalize w1.alloc (.cells #[.int .i64 x.k, .int .i64 x.n, .string x.s, .slice ca x.l.length cpa] 26) = w2 at *
  clear d0 d1 d2 d3 z0 z3
  refine (unhide IB2).mono ?_
  rintro r w3 ⟨cb, cpb, rfl, hy, hb3⟩
  have hb4 := below_new w3 (.cells #[.int .i64 y.k, .int .i64 y.n, .string y.s, .slice cb y.l.length cpb] 26)
  have hb34 := hb3.trans (hb4.mono hb3.size)
  have X4 := hide ((unhide X2).later hb34)
  have A4 := hide ((unhide A2).later hb34)
  have B4 := hide (hy.later hb4)
  have G4 := hide (row_keep (unhide G2) hb34)
  have K4 := hide (show (w3.alloc (.cells #[.int .i64 y.k, .int .i64 y.n, .string y.s, .slice cb y.l.length cpb] 26)).heap[w3.heap.size]? = some (.cells #[.int .i64 y.k, .int .i64 y.n, .string y.s, .slice cb y.l.length cpb] 26 (0, 0)) from Array.getElem?_push_size)
  have z0 := Lib.cell_of_heap (unhide X4).box 0
  have y0 := Lib.cell_of_heap (unhide G4) 0
  have y1 := Lib.cell_of_heap (unhide G4) 1
  have u0 := Lib.cell_of_heap (unhide K4) 0
  have u1 := Lib.cell_of_heap (unhide K4) 1
  have DJ := hide (show ∀ b, (Up W b ∧ b < w1.heap.size) → ¬ Up w2 b from fun b h k => by have := unhide HZ2; have h2 : w2.heap.size ≤ b := k; omega)
  have PR := hide (show ∀ b, (Up W b ∧ b < w1.heap.size) → Ow w (Up w) b from fun b h => up_ow (Nat.le_trans hzW h.1))
  have QR := hide (show ∀ b, Up w2 b → Ow w (Up w) b from fun b h => up_ow (Nat.le_trans (unhide X2).lt h))
  have HR := hide (show ∀ b, (w3.alloc (.cells #[.int .i64 y.k, .int .i64 y.n, .string y.s, .slice cb y.l.length cpb] 26)).heap.size ≤ b → Ow w (Up w) b from fun b h => up_ow (Nat.le_trans (unhide X4).lt h))
  clear hy hb3 hb4 hb34 X2 A2 G2 IB2
  have hb5 := below_new (w3.alloc (.cells #[.int .i64 y.k, .int .i64 y.n, .string y.s, .slice cb y.l.length cpb] 26)) (.cells #[.int .i64 x.k, .int .i64 x.n, .string x.s, .slice ca x.l.length cpa, .int .i64 y.k, .int .i64 y.n, .string y.s, .slice cb y.l.length cpb] 26)
  have X5 := hide ((unhide X4).later hb5)
  have hz5 : (w3.alloc (.cells #[.int .i64 y.k, .int .i64 y.n, .string y.s, .slice cb y.l.length cpb] 26)).heap.size = w3.heap.size + 1 := by simp
  have N5' := (show PX ((w3.alloc (.cells #[.int .i64 y.k, .int .i64 y.n, .string y.s, .slice cb y.l.length cpb] 26)).alloc (.cells #[.int .i64 x.k, .int .i64 x.n, .string x.s, .slice ca x.l.length cpa, .int .i64 y.k, .int .i64 y.n, .string y.s, .slice cb y.l.length cpb] 26)) (Ow w (Up w)) ⟨k, 0, ⟨#[]⟩, [x, y]⟩ (some ⟨(w3.alloc (.cells #[.int .i64 y.k, .int .i64 y.n, .string y.s, .slice cb y.l.length cpb] 26)).heap.size, 0, none⟩) from (unhide A4).two (unhide B4) (unhide DJ) (unhide PR) (unhide QR) (unhide HR _ (Nat.le_refl _)) k 0 ⟨#[]⟩ 26)
  rw [hz5] at N5'
  have N5 := hide N5'
  clear hb5 N5' hz5
  go_wp2_with (first | (refine wpList_load_row rfl 26 _ rfl w1.heap.size rfl 26 #[.int .i64 x.k, .int .i64 x.n, .string x.s, .slice ca x.l.length cpa] (0, 0) _ (unhide G4) Tryd.underlying26 rfl (by kernel_rfl) ?_) | (refine wpList_load_row rfl 26 _ rfl w3.heap.size rfl 26 #[.int .i64 y.k, .int .i64 y.n, .string y.s, .slice cb y.l.length cpb] (0, 0) _ (unhide K4) Tryd.underlying26 rfl (by kernel_rfl) ?_) | (refine wpList_store_row rfl 26 _ _ rfl (w.heap.size + 1) #[.int .i64 k, .int .i64 0, .string ⟨#[]⟩, .slice (some ⟨w3.heap.size + 1, 0, none⟩) 2 2] rfl rfl 26 _ ((unhide X5).res) szE rfl (ex_one _ _ _ _ _ _) ?_))
  refine bodyPost_ret (results_cell_row (P := Tryd.prog) rfl _ _ (w.heap.size + 1) 26 #[.int .i64 k, .int .i64 0, .string ⟨#[]⟩, .slice (some ⟨w3.heap.size + 1, 0, none⟩) 2 2] (0, 0) _ rfl (setRow_heap _ _ _ _ _ _ ((unhide X5).res)) Tryd.underlying26 rfl szE) rfl ?_
  rw [← unhide HX]
  exact Bx.end (x := ⟨k, 0, ⟨#[]⟩, [x, y]⟩) (unhide X5) (unhide N5) _
set_option maxHeartbeats 8000000 in
theorem foldS_num {d : Nat} (k : Int) (hk : 5 ≤ k ∧ k ≤ 10) (a b : Ex) (iha : FoR a) (ihb : FoR b) (oa : okF (d + 1) false (foldX a) = true) (ob : okF (d + 1) false (foldX b) = true) (f0 : ((foldX a).k == 1) = true) (f1 : ((foldX b).k == 1) = true) (m : Int) (ht : two11 k (foldX a).n (foldX b).n = some m) : FoR ⟨k, 0, ⟨#[]⟩, [a, b]⟩ := by
  intro bb cap w hr
  rw [fold_two]
  obtain ⟨p, off, rfl, hpl, hc⟩ := hr.at (by simp)
  obtain ⟨c0, c1, c2, q0, qp0, c3, r0⟩ := hc 0 (by simp)
  obtain ⟨e0, e1, e2, q1, qp1, e3, r1⟩ := hc 1 (by simp)
  have xa : xAt (Ex.mk k 0 ⟨#[]⟩ [a, b]).l 0 = a := rfl
  have xb : xAt (Ex.mk k 0 ⟨#[]⟩ [a, b]).l 1 = b := rfl
  rw [xa] at c0 c1 c2 c3 r0
  rw [xb] at e0 e1 e2 e3 r1
  simp only [Nat.zero_mul, Nat.add_zero, Nat.one_mul] at c0 c1 c2 c3 e0 e1 e2 e3
  have X0 := hide (Bx.new w #[.int .i64 k, .int .i64 0, .string ⟨#[]⟩, .slice (some ⟨p, off, none⟩) 2 cap])
  have IA := hide (iha q0 qp0 _ (RdX.later r0 (unhide X0).bel))
  have IB := hide (fun wr (h : Below w.heap.size w wr) => ihb q1 qp1 wr (RdX.later r1 h))
  have d0 := ((unhide X0).bel.cell (p := ⟨p, off, none⟩) hpl).trans c0
  have d1 := ((unhide X0).bel.cell (p := ⟨p, off + 1, none⟩) hpl).trans c1
  have d2 := ((unhide X0).bel.cell (p := ⟨p, off + 2, none⟩) hpl).trans c2
  have d3 := ((unhide X0).bel.cell (p := ⟨p, off + 3, none⟩) hpl).trans c3
  have E0' := hide (fun wr (h : Below w.heap.size w wr) => (h.cell (p := ⟨p, off + 4, none⟩) hpl).trans e0)
  have E1' := hide (fun wr (h : Below w.heap.size w wr) => (h.cell (p := ⟨p, off + 4 + 1, none⟩) hpl).trans e1)
  have E2' := hide (fun wr (h : Below w.heap.size w wr) => (h.cell (p := ⟨p, off + 4 + 2, none⟩) hpl).trans e2)
  have E3' := hide (fun wr (h : Below w.heap.size w wr) => (h.cell (p := ⟨p, off + 4 + 3, none⟩) hpl).trans e3)
  have g4 : (k == 4) = false := beq_eq_false_iff_ne.2 (by omega)
  have OA := hide oa
  have OB := hide ob
  have ia : 0 ≤ (foldX a).n ∧ (foldX a).n ≤ 65535 ∨ (foldX a).k ≠ 1 := by
    by_cases h : (foldX a).k = 1
    · obtain ⟨m, hm, e⟩ := ok_k1 oa h; rw [e]; exact .inl hm
    · exact .inr h
  have ib : 0 ≤ (foldX b).n ∧ (foldX b).n ≤ 65535 ∨ (foldX b).k ≠ 1 := by
    by_cases h : (foldX b).k = 1
    · obtain ⟨m, hm, e⟩ := ok_k1 ob h; rw [e]; exact .inl hm
    · exact .inr h
  have EQ := hide (show foldN k (foldX a) (foldX b) = numX m by unfold foldN; rw [if_pos ⟨beq_iff_eq.1 f0, beq_iff_eq.1 f1⟩, ht])
  rw [unhide EQ]
  generalize hX : GiR _ (Up w) w = X
  have HX := hide hX
  unfold GiR Ex.cs at IA IB
  show Calls Tryd.prog 53 #[.agg #[.int .i64 k, .int .i64 0, .string ⟨#[]⟩, .slice (some ⟨p, off, none⟩) 2 cap]] w X
  generalize (foldX a) = x at *
  generalize (foldX b) = y at *
  clear hX hr hc c0 c1 c2 c3 e0 e1 e2 e3 r0 r1 iha ihb EQ xa xb oa ob
  go_enter Tryd.func53, Tryd.ntmps53
  go_wp2_with fail
  generalize (w.alloc (.cells #[.int .i64 k, .int .i64 0, .string ⟨#[]⟩, .slice (some ⟨p, off, none⟩) 2 cap] 26)).alloc (.cells #[.int .i64 0, .int .i64 0, .string ⟨#[]⟩, .slice none 0 0] 26) = W at *
  clear d0 d1 d2 d3
  refine (unhide IA).mono ?_
  rintro r w1 ⟨ca, cpa, rfl, hx, hb1⟩
  have hb2 := below_new w1 (.cells #[.int .i64 x.k, .int .i64 x.n, .string x.s, .slice ca x.l.length cpa] 26)
  have hb12 := hb1.trans (hb2.mono hb1.size)
  have X2 := hide ((unhide X0).later hb12)
  have hzW := (unhide X0).lt
  have A2 := hide (hx.low.later hb2)
  have G2 := hide (show (w1.alloc (.cells #[.int .i64 x.k, .int .i64 x.n, .string x.s, .slice ca x.l.length cpa] 26)).heap[w1.heap.size]? = some (.cells #[.int .i64 x.k, .int .i64 x.n, .string x.s, .slice ca x.l.length cpa] 26 (0, 0)) from Array.getElem?_push_size)
  have z0 := Lib.cell_of_heap (unhide X2).box 0
  have z3 := Lib.cell_of_heap (unhide X2).box 3
  have d0 := unhide E0' _ (unhide X2).bel
  have d1 := unhide E1' _ (unhide X2).bel
  have d2 := unhide E2' _ (unhide X2).bel
  have d3 := unhide E3' _ (unhide X2).bel
  have IB2 := hide (unhide IB _ (unhide X2).bel)
  have S1 := hide hb1.size
  have hz12 : w1.heap.size < (w1.alloc (.cells #[.int .i64 x.k, .int .i64 x.n, .string x.s, .slice ca x.l.length cpa] 26)).heap.size := by simp
  have HZ2 := hide hz12
  clear hx hb1 hb2 hb12 X0 IA IB E0' E1' E2' E3' hz12
  go_wp2_with fail
  generalize w1.alloc (.cells #[.int .i64 x.k, .int .i64 x.n, .string x.s, .slice ca x.l.length cpa] 26) = w2 at *
  clear d0 d1 d2 d3 z0 z3
  refine (unhide IB2).mono ?_
  rintro r w3 ⟨cb, cpb, rfl, hy, hb3⟩
  have hb4 := below_new w3 (.cells #[.int .i64 y.k, .int .i64 y.n, .string y.s, .slice cb y.l.length cpb] 26)
  have hb34 := hb3.trans (hb4.mono hb3.size)
  have X4 := hide ((unhide X2).later hb34)
  have A4 := hide ((unhide A2).later hb34)
  have B4 := hide (hy.later hb4)
  have G4 := hide (row_keep (unhide G2) hb34)
  have K4 := hide (show (w3.alloc (.cells #[.int .i64 y.k, .int .i64 y.n, .string y.s, .slice cb y.l.length cpb] 26)).heap[w3.heap.size]? = some (.cells #[.int .i64 y.k, .int .i64 y.n, .string y.s, .slice cb y.l.length cpb] 26 (0, 0)) from Array.getElem?_push_size)
  have z0 := Lib.cell_of_heap (unhide X4).box 0
  have y0 := Lib.cell_of_heap (unhide G4) 0
  have y1 := Lib.cell_of_heap (unhide G4) 1
  have u0 := Lib.cell_of_heap (unhide K4) 0
  have u1 := Lib.cell_of_heap (unhide K4) 1
  have DJ := hide (show ∀ b, (Up W b ∧ b < w1.heap.size) → ¬ Up w2 b from fun b h k => by have := unhide HZ2; have h2 : w2.heap.size ≤ b := k; omega)
  have PR := hide (show ∀ b, (Up W b ∧ b < w1.heap.size) → Ow w (Up w) b from fun b h => up_ow (Nat.le_trans hzW h.1))
  have QR := hide (show ∀ b, Up w2 b → Ow w (Up w) b from fun b h => up_ow (Nat.le_trans (unhide X2).lt h))
  have HR := hide (show ∀ b, (w3.alloc (.cells #[.int .i64 y.k, .int .i64 y.n, .string y.s, .slice cb y.l.length cpb] 26)).heap.size ≤ b → Ow w (Up w) b from fun b h => up_ow (Nat.le_trans (unhide X4).lt h))
  clear hy hb3 hb4 hb34 X2 A2 G2 IB2
  have TW := hide (twoS_any k x.n y.n hk (ia.resolve_right (fun h => h (beq_iff_eq.1 f0))) (ib.resolve_right (fun h => h (beq_iff_eq.1 f1))) (w3.alloc (.cells #[.int .i64 y.k, .int .i64 y.n, .string y.s, .slice cb y.l.length cpb] 26)))
  unfold TwoR at TW
  rw [ht] at TW
  simp only [Option.getD_some, Option.isSome_some] at TW
  go_wp2_with (first | (go_at_call 78; refine (unhide TW).mono ?_; rintro r w' ⟨hw', rfl⟩; rw [hw']; clear hw' w'))
  generalize w3.alloc (.cells #[.int .i64 y.k, .int .i64 y.n, .string y.s, .slice cb y.l.length cpb] 26) = w4 at *
  clear z0 y0 y1 u0 u1
  refine (numD m w4).mono ?_
  rintro r w5 ⟨rfl, hb5⟩
  have X5 := hide ((unhide X4).later hb5)
  have A5 := hide (PX.leaf w5 (Ow w (Up w)) 1 (m % 65536) (⟨#[]⟩ : ByteArray) none)
  clear hb5 X4 A4 B4 G4 K4 TW
  go_wp2_with (refine wpList_store_row rfl 26 _ _ rfl (w.heap.size + 1) #[.int .i64 1, .int .i64 (m % 65536), .string ⟨#[]⟩, .slice none 0 0] rfl rfl 26 _ ((unhide X5).res) szE rfl (ex_one _ _ _ _ _ _) ?_)
  refine bodyPost_ret (results_cell_row (P := Tryd.prog) rfl _ _ (w.heap.size + 1) 26 #[.int .i64 1, .int .i64 (m % 65536), .string ⟨#[]⟩, .slice none 0 0] (0, 0) _ rfl (setRow_heap _ _ _ _ _ _ ((unhide X5).res)) Tryd.underlying26 rfl szE) rfl ?_
  rw [← unhide HX]
  exact Bx.end (x := numX m) (unhide X5) (unhide A5) _
set_option maxHeartbeats 8000000 in
theorem foldS_none {d : Nat} (k : Int) (hk : 5 ≤ k ∧ k ≤ 10) (a b : Ex) (iha : FoR a) (ihb : FoR b) (oa : okF (d + 1) false (foldX a) = true) (ob : okF (d + 1) false (foldX b) = true) (f0 : ((foldX a).k == 1) = true) (f1 : ((foldX b).k == 1) = true) (g6 : (k == 6) = false) (g5 : (k == 5) = false) (ht : two11 k (foldX a).n (foldX b).n = none) : FoR ⟨k, 0, ⟨#[]⟩, [a, b]⟩ := by
  intro bb cap w hr
  rw [fold_two]
  obtain ⟨p, off, rfl, hpl, hc⟩ := hr.at (by simp)
  obtain ⟨c0, c1, c2, q0, qp0, c3, r0⟩ := hc 0 (by simp)
  obtain ⟨e0, e1, e2, q1, qp1, e3, r1⟩ := hc 1 (by simp)
  have xa : xAt (Ex.mk k 0 ⟨#[]⟩ [a, b]).l 0 = a := rfl
  have xb : xAt (Ex.mk k 0 ⟨#[]⟩ [a, b]).l 1 = b := rfl
  rw [xa] at c0 c1 c2 c3 r0
  rw [xb] at e0 e1 e2 e3 r1
  simp only [Nat.zero_mul, Nat.add_zero, Nat.one_mul] at c0 c1 c2 c3 e0 e1 e2 e3
  have X0 := hide (Bx.new w #[.int .i64 k, .int .i64 0, .string ⟨#[]⟩, .slice (some ⟨p, off, none⟩) 2 cap])
  have IA := hide (iha q0 qp0 _ (RdX.later r0 (unhide X0).bel))
  have IB := hide (fun wr (h : Below w.heap.size w wr) => ihb q1 qp1 wr (RdX.later r1 h))
  have d0 := ((unhide X0).bel.cell (p := ⟨p, off, none⟩) hpl).trans c0
  have d1 := ((unhide X0).bel.cell (p := ⟨p, off + 1, none⟩) hpl).trans c1
  have d2 := ((unhide X0).bel.cell (p := ⟨p, off + 2, none⟩) hpl).trans c2
  have d3 := ((unhide X0).bel.cell (p := ⟨p, off + 3, none⟩) hpl).trans c3
  have E0' := hide (fun wr (h : Below w.heap.size w wr) => (h.cell (p := ⟨p, off + 4, none⟩) hpl).trans e0)
  have E1' := hide (fun wr (h : Below w.heap.size w wr) => (h.cell (p := ⟨p, off + 4 + 1, none⟩) hpl).trans e1)
  have E2' := hide (fun wr (h : Below w.heap.size w wr) => (h.cell (p := ⟨p, off + 4 + 2, none⟩) hpl).trans e2)
  have E3' := hide (fun wr (h : Below w.heap.size w wr) => (h.cell (p := ⟨p, off + 4 + 3, none⟩) hpl).trans e3)
  have g4 : (k == 4) = false := beq_eq_false_iff_ne.2 (by omega)
  have OA := hide oa
  have OB := hide ob
  have ia : 0 ≤ (foldX a).n ∧ (foldX a).n ≤ 65535 ∨ (foldX a).k ≠ 1 := by
    by_cases h : (foldX a).k = 1
    · obtain ⟨m, hm, e⟩ := ok_k1 oa h; rw [e]; exact .inl hm
    · exact .inr h
  have ib : 0 ≤ (foldX b).n ∧ (foldX b).n ≤ 65535 ∨ (foldX b).k ≠ 1 := by
    by_cases h : (foldX b).k = 1
    · obtain ⟨m, hm, e⟩ := ok_k1 ob h; rw [e]; exact .inl hm
    · exact .inr h
  have EQ := hide (show foldN k (foldX a) (foldX b) = ⟨k, 0, ⟨#[]⟩, [(foldX a), (foldX b)]⟩ by unfold foldN mixX; rw [if_pos ⟨beq_iff_eq.1 f0, beq_iff_eq.1 f1⟩, ht]; simp only []; rw [if_neg (beq_eq_false_iff_ne.1 g6), if_neg (fun h => beq_eq_false_iff_ne.1 g5 h.1), if_neg (fun h => beq_eq_false_iff_ne.1 g5 h.1)]; rfl)
  rw [unhide EQ]
  generalize hX : GiR _ (Up w) w = X
  have HX := hide hX
  unfold GiR Ex.cs at IA IB
  show Calls Tryd.prog 53 #[.agg #[.int .i64 k, .int .i64 0, .string ⟨#[]⟩, .slice (some ⟨p, off, none⟩) 2 cap]] w X
  generalize (foldX a) = x at *
  generalize (foldX b) = y at *
  clear hX hr hc c0 c1 c2 c3 e0 e1 e2 e3 r0 r1 iha ihb EQ xa xb oa ob
  go_enter Tryd.func53, Tryd.ntmps53
  go_wp2_with fail
  generalize (w.alloc (.cells #[.int .i64 k, .int .i64 0, .string ⟨#[]⟩, .slice (some ⟨p, off, none⟩) 2 cap] 26)).alloc (.cells #[.int .i64 0, .int .i64 0, .string ⟨#[]⟩, .slice none 0 0] 26) = W at *
  clear d0 d1 d2 d3
  refine (unhide IA).mono ?_
  rintro r w1 ⟨ca, cpa, rfl, hx, hb1⟩
  have hb2 := below_new w1 (.cells #[.int .i64 x.k, .int .i64 x.n, .string x.s, .slice ca x.l.length cpa] 26)
  have hb12 := hb1.trans (hb2.mono hb1.size)
  have X2 := hide ((unhide X0).later hb12)
  have hzW := (unhide X0).lt
  have A2 := hide (hx.low.later hb2)
  have G2 := hide (show (w1.alloc (.cells #[.int .i64 x.k, .int .i64 x.n, .string x.s, .slice ca x.l.length cpa] 26)).heap[w1.heap.size]? = some (.cells #[.int .i64 x.k, .int .i64 x.n, .string x.s, .slice ca x.l.length cpa] 26 (0, 0)) from Array.getElem?_push_size)
  have z0 := Lib.cell_of_heap (unhide X2).box 0
  have z3 := Lib.cell_of_heap (unhide X2).box 3
  have d0 := unhide E0' _ (unhide X2).bel
  have d1 := unhide E1' _ (unhide X2).bel
  have d2 := unhide E2' _ (unhide X2).bel
  have d3 := unhide E3' _ (unhide X2).bel
  have IB2 := hide (unhide IB _ (unhide X2).bel)
  have S1 := hide hb1.size
  have hz12 : w1.heap.size < (w1.alloc (.cells #[.int .i64 x.k, .int .i64 x.n, .string x.s, .slice ca x.l.length cpa] 26)).heap.size := by simp
  have HZ2 := hide hz12
  clear hx hb1 hb2 hb12 X0 IA IB E0' E1' E2' E3' hz12
  go_wp2_with fail
  generalize w1.alloc (.cells #[.int .i64 x.k, .int .i64 x.n, .string x.s, .slice ca x.l.length cpa] 26) = w2 at *
  clear d0 d1 d2 d3 z0 z3
  refine (unhide IB2).mono ?_
  rintro r w3 ⟨cb, cpb, rfl, hy, hb3⟩
  have hb4 := below_new w3 (.cells #[.int .i64 y.k, .int .i64 y.n, .string y.s, .slice cb y.l.length cpb] 26)
  have hb34 := hb3.trans (hb4.mono hb3.size)
  have X4 := hide ((unhide X2).later hb34)
  have A4 := hide ((unhide A2).later hb34)
  have B4 := hide (hy.later hb4)
  have G4 := hide (row_keep (unhide G2) hb34)
  have K4 := hide (show (w3.alloc (.cells #[.int .i64 y.k, .int .i64 y.n, .string y.s, .slice cb y.l.length cpb] 26)).heap[w3.heap.size]? = some (.cells #[.int .i64 y.k, .int .i64 y.n, .string y.s, .slice cb y.l.length cpb] 26 (0, 0)) from Array.getElem?_push_size)
  have z0 := Lib.cell_of_heap (unhide X4).box 0
  have y0 := Lib.cell_of_heap (unhide G4) 0
  have y1 := Lib.cell_of_heap (unhide G4) 1
  have u0 := Lib.cell_of_heap (unhide K4) 0
  have u1 := Lib.cell_of_heap (unhide K4) 1
  have DJ := hide (show ∀ b, (Up W b ∧ b < w1.heap.size) → ¬ Up w2 b from fun b h k => by have := unhide HZ2; have h2 : w2.heap.size ≤ b := k; omega)
  have PR := hide (show ∀ b, (Up W b ∧ b < w1.heap.size) → Ow w (Up w) b from fun b h => up_ow (Nat.le_trans hzW h.1))
  have QR := hide (show ∀ b, Up w2 b → Ow w (Up w) b from fun b h => up_ow (Nat.le_trans (unhide X2).lt h))
  have HR := hide (show ∀ b, (w3.alloc (.cells #[.int .i64 y.k, .int .i64 y.n, .string y.s, .slice cb y.l.length cpb] 26)).heap.size ≤ b → Ow w (Up w) b from fun b h => up_ow (Nat.le_trans (unhide X4).lt h))
  clear hy hb3 hb4 hb34 X2 A2 G2 IB2
  have TW := hide (twoS_any k x.n y.n hk (ia.resolve_right (fun h => h (beq_iff_eq.1 f0))) (ib.resolve_right (fun h => h (beq_iff_eq.1 f1))) (w3.alloc (.cells #[.int .i64 y.k, .int .i64 y.n, .string y.s, .slice cb y.l.length cpb] 26)))
  unfold TwoR at TW
  rw [ht] at TW
  simp only [Option.getD_none, Option.isSome_none] at TW
  have hb5 := below_new (w3.alloc (.cells #[.int .i64 y.k, .int .i64 y.n, .string y.s, .slice cb y.l.length cpb] 26)) (.cells #[.int .i64 x.k, .int .i64 x.n, .string x.s, .slice ca x.l.length cpa, .int .i64 y.k, .int .i64 y.n, .string y.s, .slice cb y.l.length cpb] 26)
  have X5 := hide ((unhide X4).later hb5)
  have hz5 : (w3.alloc (.cells #[.int .i64 y.k, .int .i64 y.n, .string y.s, .slice cb y.l.length cpb] 26)).heap.size = w3.heap.size + 1 := by simp
  have N5' := (show PX ((w3.alloc (.cells #[.int .i64 y.k, .int .i64 y.n, .string y.s, .slice cb y.l.length cpb] 26)).alloc (.cells #[.int .i64 x.k, .int .i64 x.n, .string x.s, .slice ca x.l.length cpa, .int .i64 y.k, .int .i64 y.n, .string y.s, .slice cb y.l.length cpb] 26)) (Ow w (Up w)) ⟨k, 0, ⟨#[]⟩, [x, y]⟩ (some ⟨(w3.alloc (.cells #[.int .i64 y.k, .int .i64 y.n, .string y.s, .slice cb y.l.length cpb] 26)).heap.size, 0, none⟩) from (unhide A4).two (unhide B4) (unhide DJ) (unhide PR) (unhide QR) (unhide HR _ (Nat.le_refl _)) k 0 ⟨#[]⟩ 26)
  rw [hz5] at N5'
  have N5 := hide N5'
  clear hb5 N5' hz5
  go_wp2_with (first | (go_at_call 78; refine (unhide TW).mono ?_; rintro r w' ⟨hw', rfl⟩; rw [hw']; clear hw' w') | (refine wpList_load_row rfl 26 _ rfl w1.heap.size rfl 26 #[.int .i64 x.k, .int .i64 x.n, .string x.s, .slice ca x.l.length cpa] (0, 0) _ (unhide G4) Tryd.underlying26 rfl (by kernel_rfl) ?_) | (refine wpList_load_row rfl 26 _ rfl w3.heap.size rfl 26 #[.int .i64 y.k, .int .i64 y.n, .string y.s, .slice cb y.l.length cpb] (0, 0) _ (unhide K4) Tryd.underlying26 rfl (by kernel_rfl) ?_) | (refine wpList_store_row rfl 26 _ _ rfl (w.heap.size + 1) #[.int .i64 k, .int .i64 0, .string ⟨#[]⟩, .slice (some ⟨w3.heap.size + 1, 0, none⟩) 2 2] rfl rfl 26 _ ((unhide X5).res) szE rfl (ex_one _ _ _ _ _ _) ?_))
  refine bodyPost_ret (results_cell_row (P := Tryd.prog) rfl _ _ (w.heap.size + 1) 26 #[.int .i64 k, .int .i64 0, .string ⟨#[]⟩, .slice (some ⟨w3.heap.size + 1, 0, none⟩) 2 2] (0, 0) _ rfl (setRow_heap _ _ _ _ _ _ ((unhide X5).res)) Tryd.underlying26 rfl szE) rfl ?_
  rw [← unhide HX]
  exact Bx.end (x := ⟨k, 0, ⟨#[]⟩, [x, y]⟩) (unhide X5) (unhide N5) _
end Go.Proofs.YtkolflcjkofleaaDoor

namespace Go.Proofs.YtkolflcjkofleaaDoor
open Go.ChangeShapes Go.WideShapes Go.ChangeAt Go.RowKit
set_option linter.unusedVariables false
set_option maxRecDepth 8000
set_option linter.unusedSimpArgs false

theorem name_szF {s : ByteArray} (h : nameB s = true) : s.size ≤ 6 := by
  unfold nameB at h
  rw [Bool.and_eq_true] at h
  obtain ⟨c, r, _, _, _, hl⟩ := form_open h.1
  rw [← size_len]
  exact hl
theorem foldS_two {d : Nat} (k : Int) (hk : 5 ≤ k ∧ k ≤ 10) (a b : Ex) (iha : FoR a) (ihb : FoR b) (oa : okF (d + 1) false (foldX a) = true) (ob : okF (d + 1) false (foldX b) = true) : FoR ⟨k, 0, ⟨#[]⟩, [a, b]⟩ := by
  cases g6 : (k == 6) with
  | true =>
    cases f0 : ((foldX a).k == 1) with
    | false => exact foldS_sub0 k hk a b iha ihb oa ob f0 g6
    | true =>
      cases f1 : ((foldX b).k == 1) with
      | false => exact foldS_sub1 k hk a b iha ihb oa ob f0 f1 g6
      | true =>
        obtain ⟨m, hm⟩ := two11_some (a := (foldX a).n) (b := (foldX b).n) (k := k) (.inr (beq_iff_eq.1 g6))
        exact foldS_num k hk a b iha ihb oa ob f0 f1 m hm
  | false =>
    cases g5 : (k == 5) with
    | true =>
      cases f0 : ((foldX a).k == 1) with
      | false =>
        cases f1 : ((foldX b).k == 1) with
        | false => exact foldS_add0 k hk a b iha ihb oa ob f0 f1 g6 g5
        | true => exact foldS_add2 k hk a b iha ihb oa ob f0 f1 g6 g5
      | true =>
        cases f1 : ((foldX b).k == 1) with
        | false => exact foldS_add1 k hk a b iha ihb oa ob f0 f1 g6 g5
        | true =>
          obtain ⟨m, hm⟩ := two11_some (a := (foldX a).n) (b := (foldX b).n) (k := k) (.inl (beq_iff_eq.1 g5))
          exact foldS_num k hk a b iha ihb oa ob f0 f1 m hm
    | false =>
      cases f0 : ((foldX a).k == 1) with
      | false => exact foldS_mix0 k hk a b iha ihb oa ob f0 g6 g5
      | true =>
        cases f1 : ((foldX b).k == 1) with
        | false => exact foldS_mix1 k hk a b iha ihb oa ob f0 f1 g6 g5
        | true =>
          cases ht : two11 k (foldX a).n (foldX b).n with
          | some m => exact foldS_num k hk a b iha ihb oa ob f0 f1 m ht
          | none => exact foldS_none k hk a b iha ihb oa ob f0 f1 g6 g5 ht
theorem foldS_all : ∀ (d : Nat) (e : Ex), okF d false e = true → FoR e := by
  intro d
  induction d with
  | zero => intro e h; rw [okF] at h; cases h
  | succ d ih =>
    intro e h
    rcases ok_sev h with ⟨n, hn, rfl⟩ | ⟨s, hs, rfl⟩ | rfl | ⟨n, hn, rfl⟩ | ⟨s, hs, rfl⟩ | ⟨a, ha, rfl⟩ | ⟨k, a, b, hk, ha, hb, rfl⟩
    · exact foldS_leaf _ _ _ (by show 0 ≤ 1048576; omega)
    · exact foldS_leaf _ _ _ (by have := name_szF hs; omega)
    · exact foldS_leaf _ _ _ (by show 0 ≤ 1048576; omega)
    · exact foldS_leaf _ _ _ (by show 0 ≤ 1048576; omega)
    · exact foldS_leaf _ _ _ (by have := name_szF hs; omega)
    · have oa := fold_ok d a ha
      obtain ⟨c, rfl⟩ := ok_pos ha
      have hn : 0 ≤ (foldX a).n ∧ (foldX a).n ≤ 65535 ∨ (foldX a).k ≠ 1 := by
        by_cases h1 : (foldX a).k = 1
        · obtain ⟨m, hm, e⟩ := ok_k1 oa h1; rw [e]; exact .inl hm
        · exact .inr h1
      cases f0 : ((foldX a).k == 1) with
      | false => exact foldS_neg0 a (ih a ha) f0 hn
      | true => exact foldS_neg1 a (ih a ha) f0 hn
    · have oa := fold_ok d a ha
      have ob := fold_ok d b hb
      obtain ⟨c, rfl⟩ := ok_pos ha
      exact foldS_two k hk a b (ih a ha) (ih b hb) oa ob
/-- What Fold answers. -/
def foldA (e : Ex) : Ex := if okF 6 false e = true then foldX e else e
set_option maxHeartbeats 4000000 in
theorem foldA_yes (e : Ex) (b : Option Addr) (cap : Nat) (w : World) (hr : RdX w 0 e b) (hz : e.sz ≤ 1048576) (ho : okF 6 false e = true) : Calls Tryd.prog 16 #[.agg (e.cs b cap)] w (GiR (foldA e) (Up w) w) := by
  have EQ := hide (show foldA e = foldX e by unfold foldA; rw [if_pos ho])
  rw [unhide EQ]
  have X0 := hide (Bx.new w #[.int .i64 e.k, .int .i64 e.n, .string e.s, .slice b e.l.length cap])
  have OK := hide (okS_any e b cap _ (hr.later (unhide X0).bel) hz)
  rw [ho] at OK
  have CA := hide (fun wr (h : Below w.heap.size w wr) => foldS_all 6 e ho b cap wr (hr.later h))
  generalize hX : GiR _ (Up w) w = X
  have HX := hide hX
  unfold GiR at CA
  unfold Ex.cs at CA OK ⊢
  clear hX hr hz ho EQ
  go_enter Tryd.func16, Tryd.ntmps16
  go_wp2_with fail
  generalize (w.alloc (.cells #[.int .i64 e.k, .int .i64 e.n, .string e.s, .slice b e.l.length cap] 26)).alloc (.cells #[.int .i64 0, .int .i64 0, .string ⟨#[]⟩, .slice none 0 0] 26) = W at *
  refine (unhide OK).mono ?_
  rintro r w1 ⟨rfl, hb1⟩
  have X1 := hide ((unhide X0).later hb1)
  have C1 := hide (unhide CA w1 (unhide X1).bel)
  clear hb1 X0 OK CA
  go_wp2_with (refine wpList_load_row rfl 26 _ rfl w.heap.size rfl 26 #[.int .i64 e.k, .int .i64 e.n, .string e.s, .slice b e.l.length cap] (0, 0) _ ((unhide X1).box) Tryd.underlying26 rfl (by kernel_rfl) ?_)
  refine (unhide C1).mono ?_
  rintro r w2 ⟨c2, cp2, rfl, hx, hb2⟩
  have hz1 := (unhide X1).lt
  have X2 := hide ((unhide X1).later hb2)
  have A2 := hide (hx.mono (fun b h => up_ow (w := w) (b := b) (Nat.le_trans hz1 h)))
  clear hx hb2 X1 C1
  generalize foldX e = y at *
  go_wp2_with (refine wpList_store_row rfl 26 _ _ rfl (w.heap.size + 1) #[.int .i64 y.k, .int .i64 y.n, .string y.s, .slice c2 y.l.length cp2] rfl rfl 26 _ ((unhide X2).res) szE rfl (ex_one _ _ _ _ _ _) ?_)
  refine bodyPost_ret (results_cell_row (P := Tryd.prog) rfl _ _ (w.heap.size + 1) 26 #[.int .i64 y.k, .int .i64 y.n, .string y.s, .slice c2 y.l.length cp2] (0, 0) _ rfl (setRow_heap _ _ _ _ _ _ ((unhide X2).res)) Tryd.underlying26 rfl szE) rfl ?_
  rw [← unhide HX]
  exact (unhide X2).end (unhide A2) _
set_option maxHeartbeats 4000000 in
theorem foldA_no (e : Ex) (b : Option Addr) (cap : Nat) (w : World) (hr : RdX w 0 e b) (hz : e.sz ≤ 1048576) (ho : okF 6 false e = false) : Calls Tryd.prog 16 #[.agg (e.cs b cap)] w (GiR (foldA e) (Up w) w) := by
  have EQ := hide (show foldA e = e by unfold foldA; rw [if_neg (by rw [ho]; decide)])
  rw [unhide EQ]
  have X0 := hide (Bx.new w #[.int .i64 e.k, .int .i64 e.n, .string e.s, .slice b e.l.length cap])
  have OK := hide (okS_any e b cap _ (hr.later (unhide X0).bel) hz)
  rw [ho] at OK
  have CA := hide (fun wr (h : Below w.heap.size w wr) => copyS_any e b cap wr (hr.later h) hz)
  generalize hX : GiR _ (Up w) w = X
  have HX := hide hX
  unfold GiR at CA
  unfold Ex.cs at CA OK ⊢
  clear hX hr hz ho EQ
  go_enter Tryd.func16, Tryd.ntmps16
  go_wp2_with fail
  generalize (w.alloc (.cells #[.int .i64 e.k, .int .i64 e.n, .string e.s, .slice b e.l.length cap] 26)).alloc (.cells #[.int .i64 0, .int .i64 0, .string ⟨#[]⟩, .slice none 0 0] 26) = W at *
  refine (unhide OK).mono ?_
  rintro r w1 ⟨rfl, hb1⟩
  have X1 := hide ((unhide X0).later hb1)
  have C1 := hide (unhide CA w1 (unhide X1).bel)
  clear hb1 X0 OK CA
  go_wp2_with (refine wpList_load_row rfl 26 _ rfl w.heap.size rfl 26 #[.int .i64 e.k, .int .i64 e.n, .string e.s, .slice b e.l.length cap] (0, 0) _ ((unhide X1).box) Tryd.underlying26 rfl (by kernel_rfl) ?_)
  refine (unhide C1).mono ?_
  rintro r w2 ⟨c2, cp2, rfl, hx, hb2⟩
  have hz1 := (unhide X1).lt
  have X2 := hide ((unhide X1).later hb2)
  have A2 := hide (hx.mono (fun b h => up_ow (w := w) (b := b) (Nat.le_trans hz1 h)))
  clear hx hb2 X1 C1
  generalize e = y at *
  go_wp2_with (refine wpList_store_row rfl 26 _ _ rfl (w.heap.size + 1) #[.int .i64 y.k, .int .i64 y.n, .string y.s, .slice c2 y.l.length cp2] rfl rfl 26 _ ((unhide X2).res) szE rfl (ex_one _ _ _ _ _ _) ?_)
  refine bodyPost_ret (results_cell_row (P := Tryd.prog) rfl _ _ (w.heap.size + 1) 26 #[.int .i64 y.k, .int .i64 y.n, .string y.s, .slice c2 y.l.length cp2] (0, 0) _ rfl (setRow_heap _ _ _ _ _ _ ((unhide X2).res)) Tryd.underlying26 rfl szE) rfl ?_
  rw [← unhide HX]
  exact (unhide X2).end (unhide A2) _
theorem foldA_any (e : Ex) (b : Option Addr) (cap : Nat) (w : World) (hr : RdX w 0 e b) (hz : e.sz ≤ 1048576) : Calls Tryd.prog 16 #[.agg (e.cs b cap)] w (GiR (foldA e) (Up w) w) := by
  cases ho : okF 6 false e with
  | true => exact foldA_yes e b cap w hr hz ho
  | false => exact foldA_no e b cap w hr hz ho
/-- What is known of a term. -/
def knownA (e : Ex) : Option Int := if okF 6 false e = true ∧ (foldX e).k = 1 then some (foldX e).n else none
end Go.Proofs.YtkolflcjkofleaaDoor

namespace Go.Proofs.YtkolflcjkofleaaDoor
open Go.ChangeShapes Go.WideShapes Go.ChangeAt Go.RowKit
set_option linter.unusedVariables false
set_option maxRecDepth 8000
set_option linter.unusedSimpArgs false

/-- A number answered, or none. -/
def InR (o : Option Int) (w : World) (r : Ending) (w' : World) : Prop := r = .returned (.tuple #[.int .i64 (o.getD 0), .bool o.isSome]) ∧ Below w.heap.size w w'
set_option maxHeartbeats 4000000 in
theorem known_no (e : Ex) (b : Option Addr) (cap : Nat) (w : World) (hr : RdX w 0 e b) (hz : e.sz ≤ 1048576) (ho : okF 6 false e = false) : Calls Tryd.prog 20 #[.agg (e.cs b cap)] w (InR (knownA e) w) := by
  have EQ := hide (show knownA e = none by unfold knownA; rw [if_neg (fun h => by rw [ho] at h; exact absurd h.1 (by decide))])
  rw [unhide EQ]
  have hb0 := below_new w (.cells #[.int .i64 e.k, .int .i64 e.n, .string e.s, .slice b e.l.length cap] 26)
  have G0 := (show (w.alloc (.cells #[.int .i64 e.k, .int .i64 e.n, .string e.s, .slice b e.l.length cap] 26)).heap[w.heap.size]? = some (.cells #[.int .i64 e.k, .int .i64 e.n, .string e.s, .slice b e.l.length cap] 26 (0, 0)) from Array.getElem?_push_size)
  have FO := hide (foldA_any e b cap _ (hr.later hb0) hz)
  have OK := hide (fun wr (h : Below w.heap.size w wr) => okS_any e b cap wr (hr.later h) hz)
  rw [ho] at OK
  have B0 := hide hb0
  have R0 := hide G0
  generalize hX : InR _ w = X
  have HX := hide hX
  unfold GiR at FO
  unfold Ex.cs at FO OK ⊢
  generalize foldA e = x at *
  clear hX hr hz ho EQ hb0 G0
  go_enter Tryd.func20, Tryd.ntmps20
  go_wp2_with fail
  generalize w.alloc (.cells #[.int .i64 e.k, .int .i64 e.n, .string e.s, .slice b e.l.length cap] 26) = W at *
  refine (unhide FO).mono ?_
  rintro r w1 ⟨c1, cp1, rfl, hx, hb1⟩
  clear hx
  have B1 := (unhide B0).trans (hb1.mono (unhide B0).size)
  have R1 := row_keep (unhide R0) hb1
  have hb2 := below_new w1 (.cells #[.int .i64 x.k, .int .i64 x.n, .string x.s, .slice c1 x.l.length cp1] 26)
  have B2 := hide (B1.trans (hb2.mono B1.size))
  have R2 := hide (row_keep R1 hb2)
  have G2 := hide (show (w1.alloc (.cells #[.int .i64 x.k, .int .i64 x.n, .string x.s, .slice c1 x.l.length cp1] 26)).heap[w1.heap.size]? = some (.cells #[.int .i64 x.k, .int .i64 x.n, .string x.s, .slice c1 x.l.length cp1] 26 (0, 0)) from Array.getElem?_push_size)
  have O2 := hide (unhide OK _ (unhide B2))
  clear hb1 hb2 B1 R1 B0 R0 FO OK
  go_wp2_with (refine wpList_load_row rfl 26 _ rfl w.heap.size rfl 26 #[.int .i64 e.k, .int .i64 e.n, .string e.s, .slice b e.l.length cap] (0, 0) _ (unhide R2) Tryd.underlying26 rfl (by kernel_rfl) ?_)
  generalize w1.alloc (.cells #[.int .i64 x.k, .int .i64 x.n, .string x.s, .slice c1 x.l.length cp1] 26) = w2 at *
  generalize w1.heap.size = g1 at *
  refine (unhide O2).mono ?_
  rintro r w3 ⟨rfl, hb3⟩
  have B3 := hide ((unhide B2).trans (hb3.mono (unhide B2).size))
  have G3 := row_keep (unhide G2) hb3
  have y0 := Lib.cell_of_heap G3 0
  have y1 := Lib.cell_of_heap G3 1
  clear hb3 B2 G2 O2 R2 G3
  go_wp2
  rw [← unhide HX]
  exact ⟨rfl, unhide B3⟩
set_option maxHeartbeats 4000000 in
theorem known_y (e : Ex) (b : Option Addr) (cap : Nat) (w : World) (hr : RdX w 0 e b) (hz : e.sz ≤ 1048576) (ho : okF 6 false e = true) (f1 : ((foldA e).k == 1) = true) : Calls Tryd.prog 20 #[.agg (e.cs b cap)] w (InR (knownA e) w) := by
  have EQ := hide (show knownA e = some (foldA e).n by have e1 : foldA e = foldX e := (by unfold foldA; rw [if_pos ho]); rw [e1] at f1 ⊢; unfold knownA; rw [if_pos ⟨ho, beq_iff_eq.1 f1⟩])
  rw [unhide EQ]
  have hb0 := below_new w (.cells #[.int .i64 e.k, .int .i64 e.n, .string e.s, .slice b e.l.length cap] 26)
  have G0 := (show (w.alloc (.cells #[.int .i64 e.k, .int .i64 e.n, .string e.s, .slice b e.l.length cap] 26)).heap[w.heap.size]? = some (.cells #[.int .i64 e.k, .int .i64 e.n, .string e.s, .slice b e.l.length cap] 26 (0, 0)) from Array.getElem?_push_size)
  have FO := hide (foldA_any e b cap _ (hr.later hb0) hz)
  have OK := hide (fun wr (h : Below w.heap.size w wr) => okS_any e b cap wr (hr.later h) hz)
  rw [ho] at OK
  have B0 := hide hb0
  have R0 := hide G0
  generalize hX : InR _ w = X
  have HX := hide hX
  unfold GiR at FO
  unfold Ex.cs at FO OK ⊢
  generalize foldA e = x at *
  clear hX hr hz ho EQ hb0 G0
  go_enter Tryd.func20, Tryd.ntmps20
  go_wp2_with fail
  generalize w.alloc (.cells #[.int .i64 e.k, .int .i64 e.n, .string e.s, .slice b e.l.length cap] 26) = W at *
  refine (unhide FO).mono ?_
  rintro r w1 ⟨c1, cp1, rfl, hx, hb1⟩
  clear hx
  have B1 := (unhide B0).trans (hb1.mono (unhide B0).size)
  have R1 := row_keep (unhide R0) hb1
  have hb2 := below_new w1 (.cells #[.int .i64 x.k, .int .i64 x.n, .string x.s, .slice c1 x.l.length cp1] 26)
  have B2 := hide (B1.trans (hb2.mono B1.size))
  have R2 := hide (row_keep R1 hb2)
  have G2 := hide (show (w1.alloc (.cells #[.int .i64 x.k, .int .i64 x.n, .string x.s, .slice c1 x.l.length cp1] 26)).heap[w1.heap.size]? = some (.cells #[.int .i64 x.k, .int .i64 x.n, .string x.s, .slice c1 x.l.length cp1] 26 (0, 0)) from Array.getElem?_push_size)
  have O2 := hide (unhide OK _ (unhide B2))
  clear hb1 hb2 B1 R1 B0 R0 FO OK
  go_wp2_with (refine wpList_load_row rfl 26 _ rfl w.heap.size rfl 26 #[.int .i64 e.k, .int .i64 e.n, .string e.s, .slice b e.l.length cap] (0, 0) _ (unhide R2) Tryd.underlying26 rfl (by kernel_rfl) ?_)
  generalize w1.alloc (.cells #[.int .i64 x.k, .int .i64 x.n, .string x.s, .slice c1 x.l.length cp1] 26) = w2 at *
  generalize w1.heap.size = g1 at *
  refine (unhide O2).mono ?_
  rintro r w3 ⟨rfl, hb3⟩
  have B3 := hide ((unhide B2).trans (hb3.mono (unhide B2).size))
  have G3 := row_keep (unhide G2) hb3
  have y0 := Lib.cell_of_heap G3 0
  have y1 := Lib.cell_of_heap G3 1
  clear hb3 B2 G2 O2 R2 G3
  go_wp2
  rw [← unhide HX]
  exact ⟨rfl, unhide B3⟩
set_option maxHeartbeats 4000000 in
theorem known_n (e : Ex) (b : Option Addr) (cap : Nat) (w : World) (hr : RdX w 0 e b) (hz : e.sz ≤ 1048576) (ho : okF 6 false e = true) (f1 : ((foldA e).k == 1) = false) : Calls Tryd.prog 20 #[.agg (e.cs b cap)] w (InR (knownA e) w) := by
  have EQ := hide (show knownA e = none by have e1 : foldA e = foldX e := (by unfold foldA; rw [if_pos ho]); rw [e1] at f1; unfold knownA; rw [if_neg (fun h => beq_eq_false_iff_ne.1 f1 h.2)])
  rw [unhide EQ]
  have hb0 := below_new w (.cells #[.int .i64 e.k, .int .i64 e.n, .string e.s, .slice b e.l.length cap] 26)
  have G0 := (show (w.alloc (.cells #[.int .i64 e.k, .int .i64 e.n, .string e.s, .slice b e.l.length cap] 26)).heap[w.heap.size]? = some (.cells #[.int .i64 e.k, .int .i64 e.n, .string e.s, .slice b e.l.length cap] 26 (0, 0)) from Array.getElem?_push_size)
  have FO := hide (foldA_any e b cap _ (hr.later hb0) hz)
  have OK := hide (fun wr (h : Below w.heap.size w wr) => okS_any e b cap wr (hr.later h) hz)
  rw [ho] at OK
  have B0 := hide hb0
  have R0 := hide G0
  generalize hX : InR _ w = X
  have HX := hide hX
  unfold GiR at FO
  unfold Ex.cs at FO OK ⊢
  generalize foldA e = x at *
  clear hX hr hz ho EQ hb0 G0
  go_enter Tryd.func20, Tryd.ntmps20
  go_wp2_with fail
  generalize w.alloc (.cells #[.int .i64 e.k, .int .i64 e.n, .string e.s, .slice b e.l.length cap] 26) = W at *
  refine (unhide FO).mono ?_
  rintro r w1 ⟨c1, cp1, rfl, hx, hb1⟩
  clear hx
  have B1 := (unhide B0).trans (hb1.mono (unhide B0).size)
  have R1 := row_keep (unhide R0) hb1
  have hb2 := below_new w1 (.cells #[.int .i64 x.k, .int .i64 x.n, .string x.s, .slice c1 x.l.length cp1] 26)
  have B2 := hide (B1.trans (hb2.mono B1.size))
  have R2 := hide (row_keep R1 hb2)
  have G2 := hide (show (w1.alloc (.cells #[.int .i64 x.k, .int .i64 x.n, .string x.s, .slice c1 x.l.length cp1] 26)).heap[w1.heap.size]? = some (.cells #[.int .i64 x.k, .int .i64 x.n, .string x.s, .slice c1 x.l.length cp1] 26 (0, 0)) from Array.getElem?_push_size)
  have O2 := hide (unhide OK _ (unhide B2))
  clear hb1 hb2 B1 R1 B0 R0 FO OK
  go_wp2_with (refine wpList_load_row rfl 26 _ rfl w.heap.size rfl 26 #[.int .i64 e.k, .int .i64 e.n, .string e.s, .slice b e.l.length cap] (0, 0) _ (unhide R2) Tryd.underlying26 rfl (by kernel_rfl) ?_)
  generalize w1.alloc (.cells #[.int .i64 x.k, .int .i64 x.n, .string x.s, .slice c1 x.l.length cp1] 26) = w2 at *
  generalize w1.heap.size = g1 at *
  refine (unhide O2).mono ?_
  rintro r w3 ⟨rfl, hb3⟩
  have B3 := hide ((unhide B2).trans (hb3.mono (unhide B2).size))
  have G3 := row_keep (unhide G2) hb3
  have y0 := Lib.cell_of_heap G3 0
  have y1 := Lib.cell_of_heap G3 1
  clear hb3 B2 G2 O2 R2 G3
  go_wp2
  rw [← unhide HX]
  exact ⟨rfl, unhide B3⟩
theorem knownS_any (e : Ex) (b : Option Addr) (cap : Nat) (w : World) (hr : RdX w 0 e b) (hz : e.sz ≤ 1048576) : Calls Tryd.prog 20 #[.agg (e.cs b cap)] w (InR (knownA e) w) := by
  cases ho : okF 6 false e with
  | false => exact known_no e b cap w hr hz ho
  | true =>
    cases f1 : ((foldA e).k == 1) with
    | false => exact known_n e b cap w hr hz ho f1
    | true => exact known_y e b cap w hr hz ho f1
end Go.Proofs.YtkolflcjkofleaaDoor
