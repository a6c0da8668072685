/- Contracts over this seat's translation, laid together; conditions stand as hypotheses of each. -/
import Derived.Test.YtkolflcjkofleaaDoorTxC
import Derived.Test.YtkolflcjkofleaaDoorTxD

namespace Go.Proofs.YtkolflcjkofleaaDoor
open Go.ChangeShapes Go.WideShapes Go.ChangeAt Go.RowKit
set_option linter.unusedVariables false
set_option maxRecDepth 8000
set_option linter.unusedSimpArgs false

theorem al1 {w w' : World} {o : Obj} (h : Below (w.alloc o).heap.size (w.alloc o) w') : Below w.heap.size w w' := (below_new w o).trans (h.mono (by simp))
theorem al2 {w w' : World} {o p : Obj} (h : Below ((w.alloc o).alloc p).heap.size ((w.alloc o).alloc p) w') : Below w.heap.size w w' := al1 (al1 h)
theorem al3 {w w' : World} {o p q : Obj} (h : Below (((w.alloc o).alloc p).alloc q).heap.size (((w.alloc o).alloc p).alloc q) w') : Below w.heap.size w w' := al1 (al2 h)
theorem al4 {w w' : World} {o p q s : Obj} (h : Below ((((w.alloc o).alloc p).alloc q).alloc s).heap.size ((((w.alloc o).alloc p).alloc q).alloc s) w') : Below w.heap.size w w' := al1 (al3 h)
/-- Whether a value is a number of the program's, and which (0, where it is none). -/
def IsN (v : Value) (z : Int) (q : Bool) : Prop := ∀ w, (Instr.typeAssert v 66 88 true).run Tryd.prog w = .ok (.tuple #[.agg #[.int .i64 z], .bool q]) w
theorem isN_of {d : Nat} {a : Ex} (h : okF (d + 1) false a = true) : (a.k = 1 ∧ (0 ≤ a.n ∧ a.n ≤ 65535) ∧ IsN (tv a) a.n true) ∨ (a.k ≠ 1 ∧ IsN (tv a) 0 false) := by
  by_cases h1 : a.k = 1
  · obtain ⟨n, hn, rfl⟩ := ok_k1 h h1
    left
    rw [tv_num]
    exact ⟨rfl, hn, fun w => taY_num _ w⟩
  · right
    obtain ⟨T, x, e, g, _, _⟩ := tv_kT h
    rw [e]
    exact ⟨h1, fun w => taN_num T x (g h1) w⟩
set_option maxHeartbeats 4000000 in
theorem fp_two (k : Int) (z1 z2 : Int) (v : Int) (hw : two11 k z1 z2 = some v) (tw : ∀ w, Calls Tryd.prog 88 #[.int .i64 k, .int .i64 z1, .int .i64 z2] w (TwoR k z1 z2 w)) (ta tb : TypeId) (xa xb : Value) (i1 : IsN (.iface ta xa) z1 true) (i2 : IsN (.iface tb xb) z2 true) (w : World) : Calls Tryd.prog 73 #[.int .i64 k, .agg #[.iface ta xa, .iface tb xb]] w (VaR (.iface 88 (.agg #[.int .i64 v])) w) := by
  have FN := hide (fun r w' (h : r = .returned (.iface 88 (.agg #[.int .i64 v]))) (hb : Below w.heap.size w w') => (show VaR _ w r w' from ⟨h, hb⟩))
  generalize VaR (.iface 88 (.agg #[.int .i64 v])) w = R at *
  unfold IsN at i1 i2
  have TW := hide tw
  unfold TwoR at TW
  rw [hw] at TW
  simp only [Option.getD_some, Option.isSome_some] at TW
  clear tw hw
  go_enter Tryd.func73, Tryd.ntmps73
  go_wp2_with (go_at_call 88; refine (unhide TW _).mono ?_; rintro r w0 ⟨hw0, rfl⟩; rw [hw0]; clear hw0 w0)
  (first | go_ret2 | go_ret | skip)
  exact unhide FN _ _ rfl (by first | exact Below.refl _ _ | exact al1 (Below.refl _ _) | exact al2 (Below.refl _ _) | exact al3 (Below.refl _ _) | exact al4 (Below.refl _ _))
set_option maxHeartbeats 4000000 in
theorem fp_none (k : Int) (z1 z2 : Int) (h5 : (k == 5) = false) (h6 : (k == 6) = false) (hw : two11 k z1 z2 = none) (tw : ∀ w, Calls Tryd.prog 88 #[.int .i64 k, .int .i64 z1, .int .i64 z2] w (TwoR k z1 z2 w)) (hk : inB k 5 10 = true) (ta tb : TypeId) (xa xb : Value) (i1 : IsN (.iface ta xa) z1 true) (i2 : IsN (.iface tb xb) z2 true) (w : World) : Calls Tryd.prog 73 #[.int .i64 k, .agg #[.iface ta xa, .iface tb xb]] w (VaR (.iface (pairT k) (.agg #[.iface ta xa, .iface tb xb])) w) := by
  have FN := hide (fun r w' (h : r = .returned (.iface (pairT k) (.agg #[.iface ta xa, .iface tb xb]))) (hb : Below w.heap.size w w') => (show VaR _ w r w' from ⟨h, hb⟩))
  generalize VaR (.iface (pairT k) (.agg #[.iface ta xa, .iface tb xb])) w = R at *
  unfold IsN at i1 i2
  have TW := hide tw
  unfold TwoR at TW
  rw [hw] at TW
  simp only [Option.getD_none, Option.isSome_none] at TW
  have PA := hide (fun w => pair_any k (.iface ta xa) (.iface tb xb) w)
  rw [hk] at PA
  simp only [forall_const] at PA
  clear tw hw hk
  generalize pairT k = pT at *
  go_enter Tryd.func73, Tryd.ntmps73
  go_wp2_with (go_at_call 88; refine (unhide TW _).mono ?_; rintro r w0 ⟨hw0, rfl⟩; rw [hw0]; clear hw0 w0)
  go_wp2_with fail
  refine (unhide PA _).mono ?_
  rintro r w1 ⟨x, rfl, rfl, hb1⟩
  have B1 := hide (show Below w.heap.size w w1 by first | exact hb1 | exact al1 hb1 | exact al2 hb1 | exact al3 hb1 | exact al4 hb1)
  clear hb1
  go_wp2
  (first | go_ret2 | go_ret | skip)
  exact unhide FN _ _ rfl (unhide B1)
set_option maxHeartbeats 4000000 in
theorem fp_oth (k : Int) (h5 : (k == 5) = false) (h6 : (k == 6) = false) (hk : inB k 5 10 = true) (q1 q2 : Bool) (hq : (q1 && q2) = false) (ta tb : TypeId) (xa xb : Value) (z1 z2 : Int) (i1 : IsN (.iface ta xa) z1 q1) (i2 : IsN (.iface tb xb) z2 q2) (w : World) : Calls Tryd.prog 73 #[.int .i64 k, .agg #[.iface ta xa, .iface tb xb]] w (VaR (.iface (pairT k) (.agg #[.iface ta xa, .iface tb xb])) w) := by
  have FN := hide (fun r w' (h : r = .returned (.iface (pairT k) (.agg #[.iface ta xa, .iface tb xb]))) (hb : Below w.heap.size w w') => (show VaR _ w r w' from ⟨h, hb⟩))
  generalize VaR (.iface (pairT k) (.agg #[.iface ta xa, .iface tb xb])) w = R at *
  unfold IsN at i1 i2
  have PA := hide (fun w => pair_any k (.iface ta xa) (.iface tb xb) w)
  rw [hk] at PA
  simp only [forall_const] at PA
  clear hk
  generalize pairT k = pT at *
  cases q1 <;> cases q2 <;> (first | cases hq | skip)
  all_goals
    go_enter Tryd.func73, Tryd.ntmps73
    go_wp2_with fail
    refine (unhide PA _).mono ?_
    rintro r w1 ⟨x, rfl, rfl, hb1⟩
    have B1 := hide (show Below w.heap.size w w1 by first | exact hb1 | exact al1 hb1 | exact al2 hb1 | exact al3 hb1 | exact al4 hb1)
    clear hb1
    go_wp2
    (first | go_ret2 | go_ret | skip)
    exact unhide FN _ _ rfl (unhide B1)
set_option maxHeartbeats 4000000 in
theorem fp_add0  (ta tb : TypeId) (xa xb : Value) (z1 z2 : Int) (i1 : IsN (.iface ta xa) z1 false) (i2 : IsN (.iface tb xb) z2 false) (w : World) : Calls Tryd.prog 73 #[.int .i64 5, .agg #[.iface ta xa, .iface tb xb]] w (VaR (.iface 134 (.agg #[.iface ta xa, .iface tb xb])) w) := by
  have FN := hide (fun r w' (h : r = .returned (.iface 134 (.agg #[.iface ta xa, .iface tb xb]))) (hb : Below w.heap.size w w') => (show VaR _ w r w' from ⟨h, hb⟩))
  generalize VaR (.iface 134 (.agg #[.iface ta xa, .iface tb xb])) w = R at *
  unfold IsN at i1 i2
  have PA := hide (fun w => pair_any 5 (.iface ta xa) (.iface tb xb) w)
  rw [show inB 5 5 10 = true by decide, show pairT 5 = 134 from rfl] at PA
  simp only [forall_const] at PA
  go_enter Tryd.func73, Tryd.ntmps73
  go_wp2_with fail
  refine (unhide PA _).mono ?_
  rintro r w1 ⟨x, rfl, rfl, hb1⟩
  have B1 := hide (show Below w.heap.size w w1 by first | exact hb1 | exact al1 hb1 | exact al2 hb1 | exact al3 hb1 | exact al4 hb1)
  clear hb1
  go_wp2
  (first | go_ret2 | go_ret | skip)
  exact unhide FN _ _ rfl (unhide B1)
set_option maxHeartbeats 4000000 in
theorem fp_add1 (V : Value) (z1 : Int) (tb : TypeId) (xb : Value) (ad : ∀ w, Calls Tryd.prog 89 #[.iface tb xb, .int .i64 z1] w (VaR V w)) (ta : TypeId) (xa : Value) (z2 : Int) (i1 : IsN (.iface ta xa) z1 true) (i2 : IsN (.iface tb xb) z2 false) (w : World) : Calls Tryd.prog 73 #[.int .i64 5, .agg #[.iface ta xa, .iface tb xb]] w (VaR (V) w) := by
  have FN := hide (fun r w' (h : r = .returned (V)) (hb : Below w.heap.size w w') => (show VaR _ w r w' from ⟨h, hb⟩))
  generalize VaR (V) w = R at *
  unfold IsN at i1 i2
  have AD := hide ad
  unfold VaR at AD
  clear ad
  go_enter Tryd.func73, Tryd.ntmps73
  go_wp2_with fail
  refine (unhide AD _).mono ?_
  rintro r w1 ⟨rfl, hb1⟩
  have B1 := hide (show Below w.heap.size w w1 by first | exact hb1 | exact al1 hb1 | exact al2 hb1 | exact al3 hb1 | exact al4 hb1)
  clear hb1
  go_wp2
  (first | go_ret2 | go_ret | skip)
  exact unhide FN _ _ rfl (unhide B1)
set_option maxHeartbeats 4000000 in
theorem fp_add2 (V : Value) (z2 : Int) (ta : TypeId) (xa : Value) (ad : ∀ w, Calls Tryd.prog 89 #[.iface ta xa, .int .i64 z2] w (VaR V w)) (tb : TypeId) (xb : Value) (z1 : Int) (i1 : IsN (.iface ta xa) z1 false) (i2 : IsN (.iface tb xb) z2 true) (w : World) : Calls Tryd.prog 73 #[.int .i64 5, .agg #[.iface ta xa, .iface tb xb]] w (VaR (V) w) := by
  have FN := hide (fun r w' (h : r = .returned (V)) (hb : Below w.heap.size w w') => (show VaR _ w r w' from ⟨h, hb⟩))
  generalize VaR (V) w = R at *
  unfold IsN at i1 i2
  have AD := hide ad
  unfold VaR at AD
  clear ad
  go_enter Tryd.func73, Tryd.ntmps73
  go_wp2_with fail
  refine (unhide AD _).mono ?_
  rintro r w1 ⟨rfl, hb1⟩
  have B1 := hide (show Below w.heap.size w w1 by first | exact hb1 | exact al1 hb1 | exact al2 hb1 | exact al3 hb1 | exact al4 hb1)
  clear hb1
  go_wp2
  (first | go_ret2 | go_ret | skip)
  exact unhide FN _ _ rfl (unhide B1)
set_option maxHeartbeats 4000000 in
theorem fp_sub2 (V : Value) (z2 : Int) (hz : 0 ≤ z2 ∧ z2 ≤ 65535) (ta : TypeId) (xa : Value) (ad : ∀ w, Calls Tryd.prog 89 #[.iface ta xa, .int .i64 (-z2)] w (VaR V w)) (tb : TypeId) (xb : Value) (z1 : Int) (i1 : IsN (.iface ta xa) z1 false) (i2 : IsN (.iface tb xb) z2 true) (w : World) : Calls Tryd.prog 73 #[.int .i64 6, .agg #[.iface ta xa, .iface tb xb]] w (VaR (V) w) := by
  have FN := hide (fun r w' (h : r = .returned (V)) (hb : Below w.heap.size w w') => (show VaR _ w r w' from ⟨h, hb⟩))
  generalize VaR (V) w = R at *
  unfold IsN at i1 i2
  have AD := hide ad
  unfold VaR at AD
  clear ad
  go_enter Tryd.func73, Tryd.ntmps73
  go_wp2_with fail
  refine (unhide AD _).mono ?_
  rintro r w1 ⟨rfl, hb1⟩
  have B1 := hide (show Below w.heap.size w w1 by first | exact hb1 | exact al1 hb1 | exact al2 hb1 | exact al3 hb1 | exact al4 hb1)
  clear hb1
  go_wp2
  (first | go_ret2 | go_ret | skip)
  exact unhide FN _ _ rfl (unhide B1)
set_option maxHeartbeats 4000000 in
theorem fp_sub0 (n m : Int) (ta tb : TypeId) (xa xb : Value) (q1 : Bool) (ap : ∀ w, Calls Tryd.prog 90 #[.agg #[.iface ta xa, .iface tb xb]] w (ApR n m false w)) (z1 z2 : Int) (i1 : IsN (.iface ta xa) z1 q1) (i2 : IsN (.iface tb xb) z2 false) (w : World) : Calls Tryd.prog 73 #[.int .i64 6, .agg #[.iface ta xa, .iface tb xb]] w (VaR (.iface 135 (.agg #[.iface ta xa, .iface tb xb])) w) := by
  have FN := hide (fun r w' (h : r = .returned (.iface 135 (.agg #[.iface ta xa, .iface tb xb]))) (hb : Below w.heap.size w w') => (show VaR _ w r w' from ⟨h, hb⟩))
  generalize VaR (.iface 135 (.agg #[.iface ta xa, .iface tb xb])) w = R at *
  unfold IsN at i1 i2
  have AP := hide ap
  unfold ApR at AP
  clear ap
  generalize wr (n - m) = nm at *
  have G0 := hide (show (w.alloc (.cells #[.iface ta xa, .iface tb xb] 107)).heap[w.heap.size]? = some (.cells #[.iface ta xa, .iface tb xb] 107 (0, 0)) from Array.getElem?_push_size)
  have PA := hide (fun w => pair_any 6 (.iface ta xa) (.iface tb xb) w)
  rw [show inB 6 5 10 = true by decide, show pairT 6 = 135 from rfl] at PA
  simp only [forall_const] at PA
  cases q1
  all_goals
    go_enter Tryd.func73, Tryd.ntmps73
    go_wp2_with fail
    refine (unhide AP _).mono ?_
    rintro r w1 ⟨rfl, hb1⟩
    have G1 : w1.heap[w.heap.size]? = some (.cells #[.iface ta xa, .iface tb xb] 107 (0, 0)) := by first | exact row_keep (unhide G0) hb1 | exact row_keep (unhide G0) (al1 hb1) | exact row_keep (unhide G0) (al2 hb1) | exact row_keep (unhide G0) (al3 hb1)
    have p0 := Lib.cell_of_heap G1 0
    have p1 := Lib.cell_of_heap G1 1
    have B1 := hide (show Below w.heap.size w w1 by first | exact hb1 | exact al1 hb1 | exact al2 hb1 | exact al3 hb1 | exact al4 hb1)
    clear hb1 G1
    go_wp2_with fail
    refine (unhide PA _).mono ?_
    rintro r w2 ⟨x, rfl, rfl, hb2⟩
    have B2 := hide (show Below w.heap.size w w2 from (unhide B1).trans (hb2.mono (unhide B1).size))
    clear hb2
    go_wp2
    (first | go_ret2 | go_ret | skip)
    exact unhide FN _ _ rfl (unhide B2)
set_option maxHeartbeats 4000000 in
theorem fp_sub1 (n m : Int) (ta tb : TypeId) (xa xb : Value) (q1 : Bool) (ap : ∀ w, Calls Tryd.prog 90 #[.agg #[.iface ta xa, .iface tb xb]] w (ApR n m true w)) (z1 z2 : Int) (i1 : IsN (.iface ta xa) z1 q1) (i2 : IsN (.iface tb xb) z2 false) (w : World) : Calls Tryd.prog 73 #[.int .i64 6, .agg #[.iface ta xa, .iface tb xb]] w (VaR (.iface 88 (.agg #[.int .i64 (wr (n - m))])) w) := by
  have FN := hide (fun r w' (h : r = .returned (.iface 88 (.agg #[.int .i64 (wr (n - m))]))) (hb : Below w.heap.size w w') => (show VaR _ w r w' from ⟨h, hb⟩))
  generalize VaR (.iface 88 (.agg #[.int .i64 (wr (n - m))])) w = R at *
  unfold IsN at i1 i2
  have AP := hide ap
  unfold ApR at AP
  clear ap
  generalize wr (n - m) = nm at *
  have G0 := hide (show (w.alloc (.cells #[.iface ta xa, .iface tb xb] 107)).heap[w.heap.size]? = some (.cells #[.iface ta xa, .iface tb xb] 107 (0, 0)) from Array.getElem?_push_size)
  cases q1
  all_goals
    go_enter Tryd.func73, Tryd.ntmps73
    go_wp2_with fail
    refine (unhide AP _).mono ?_
    rintro r w1 ⟨rfl, hb1⟩
    have G1 : w1.heap[w.heap.size]? = some (.cells #[.iface ta xa, .iface tb xb] 107 (0, 0)) := by first | exact row_keep (unhide G0) hb1 | exact row_keep (unhide G0) (al1 hb1) | exact row_keep (unhide G0) (al2 hb1) | exact row_keep (unhide G0) (al3 hb1)
    have p0 := Lib.cell_of_heap G1 0
    have p1 := Lib.cell_of_heap G1 1
    have B1 := hide (show Below w.heap.size w w1 by first | exact hb1 | exact al1 hb1 | exact al2 hb1 | exact al3 hb1 | exact al4 hb1)
    clear hb1 G1
    go_wp2
    (first | go_ret2 | go_ret | skip)
    exact unhide FN _ _ rfl (unhide B1)
theorem foldPI_any {d : Nat} {k : Int} {a b : Ex} (hk : 5 ≤ k ∧ k ≤ 10) (ha : okF (d + 1) false a = true) (hb : okF (d + 1) false b = true) (w : World) : Calls Tryd.prog 73 #[.int .i64 k, .agg #[tv a, tv b]] w (VaR (tv (foldN k a b)) w) := by
  have AA := fun (n : Int) (hn : -65536 ≤ n ∧ n ≤ 65536) w => addI_any ha n hn w
  have AB := fun (n : Int) (hn : -65536 ≤ n ∧ n ≤ 65536) w => addI_any hb n hn w
  have AP := fun w => apI_any ha hb w
  have IA := isN_of ha
  have IB := isN_of hb
  have TT := fun (k' : Int) (hk' : 5 ≤ k' ∧ k' ≤ 10) => tv_two hk' 0 E0 a b
  obtain ⟨ta, xa, ea⟩ := tv_if a
  obtain ⟨tb, xb, eb⟩ := tv_if b
  rw [ea] at IA AA AP TT ⊢
  rw [eb] at IB AB AP TT ⊢
  have hi : inB k 5 10 = true := inB_t _ _ _ hk.1 hk.2
  rcases IA with ⟨a1, an, ia⟩ | ⟨a1, ia⟩
  · rcases IB with ⟨b1, bn, ib⟩ | ⟨b1, ib⟩
    · have TW := fun w => twoI_any k a.n b.n hk an bn w
      have E : foldN k a b = (match two11 k a.n b.n with | some n => numX n | none => mixX k a b) := by unfold foldN; exact if_pos ⟨a1, b1⟩
      rw [E]
      cases hw : two11 k a.n b.n with
      | some v =>
        simp only
        unfold numX
        rw [tv_num, wr_of (two11_in hk an bn hw)]
        exact fp_two k a.n b.n v hw TW ta tb xa xb ia ib w
      | none =>
        simp only
        have k5 : k ≠ 5 := fun h => by obtain ⟨n, hn⟩ := two11_some (k := k) (a := a.n) (b := b.n) (.inl h); rw [hn] at hw; cases hw
        have k6 : k ≠ 6 := fun h => by obtain ⟨n, hn⟩ := two11_some (k := k) (a := a.n) (b := b.n) (.inr h); rw [hn] at hw; cases hw
        unfold mixX
        rw [if_neg k6, if_neg (fun h => k5 h.1), if_neg (fun h => k5 h.1), TT k hk]
        exact fp_none k a.n b.n (beq_eq_false_iff_ne.2 k5) (beq_eq_false_iff_ne.2 k6) hw TW hi ta tb xa xb ia ib w
    · have E : foldN k a b = mixX k a b := by unfold foldN; rw [if_neg (fun h => b1 h.2)]
      rw [E]
      unfold mixX
      by_cases k6 : k = 6
      · subst k6
        rw [if_pos rfl]
        unfold subX
        rw [if_neg b1]
        unfold sApX at AP
        by_cases hs : (prtX a).1.k = 11 ∧ (prtX b).1.k = 11 ∧ (prtX a).1.n = (prtX b).1.n
        · rw [if_pos hs]
          unfold numX
          rw [tv_num]
          rw [decide_eq_true hs] at AP
          exact fp_sub1 _ _ ta tb xa xb true AP _ _ ia ib w
        · rw [if_neg hs, TT 6 (by omega)]
          rw [decide_eq_false hs] at AP
          exact fp_sub0 _ _ ta tb xa xb true AP _ _ ia ib w
      · by_cases k5 : k = 5
        · subst k5
          rw [if_neg k6, if_pos ⟨rfl, a1⟩]
          exact fp_add1 _ a.n tb xb (AB a.n (by omega)) ta xa _ ia ib w
        · rw [if_neg k6, if_neg (fun h => k5 h.1), if_neg (fun h => k5 h.1), TT k hk]
          exact fp_oth k (beq_eq_false_iff_ne.2 k5) (beq_eq_false_iff_ne.2 k6) hi true false rfl ta tb xa xb _ _ ia ib w
  · have E : foldN k a b = mixX k a b := by unfold foldN; rw [if_neg (fun h => a1 h.1)]
    rw [E]
    unfold mixX
    rcases IB with ⟨b1, bn, ib⟩ | ⟨b1, ib⟩
    · by_cases k6 : k = 6
      · subst k6
        rw [if_pos rfl]
        unfold subX
        rw [if_pos b1]
        exact fp_sub2 _ b.n bn ta xa (AA (-b.n) (by omega)) tb xb _ ia ib w
      · by_cases k5 : k = 5
        · subst k5
          rw [if_neg k6, if_neg (fun h => a1 h.2), if_pos ⟨rfl, b1⟩]
          exact fp_add2 _ b.n ta xa (AA b.n (by omega)) tb xb _ ia ib w
        · rw [if_neg k6, if_neg (fun h => k5 h.1), if_neg (fun h => k5 h.1), TT k hk]
          exact fp_oth k (beq_eq_false_iff_ne.2 k5) (beq_eq_false_iff_ne.2 k6) hi false true rfl ta tb xa xb _ _ ia ib w
    · by_cases k6 : k = 6
      · subst k6
        rw [if_pos rfl]
        unfold subX
        rw [if_neg b1]
        unfold sApX at AP
        by_cases hs : (prtX a).1.k = 11 ∧ (prtX b).1.k = 11 ∧ (prtX a).1.n = (prtX b).1.n
        · rw [if_pos hs]
          unfold numX
          rw [tv_num]
          rw [decide_eq_true hs] at AP
          exact fp_sub1 _ _ ta tb xa xb false AP _ _ ia ib w
        · rw [if_neg hs, TT 6 (by omega)]
          rw [decide_eq_false hs] at AP
          exact fp_sub0 _ _ ta tb xa xb false AP _ _ ia ib w
      · by_cases k5 : k = 5
        · subst k5
          rw [if_neg k6, if_neg (fun h => a1 h.2), if_neg (fun h => b1 h.2), TT 5 hk]
          exact fp_add0 ta tb xa xb _ _ ia ib w
        · rw [if_neg k6, if_neg (fun h => k5 h.1), if_neg (fun h => k5 h.1), TT k hk]
          exact fp_oth k (beq_eq_false_iff_ne.2 k5) (beq_eq_false_iff_ne.2 k6) hi false false rfl ta tb xa xb _ _ ia ib w
end Go.Proofs.YtkolflcjkofleaaDoor

namespace Go.Proofs.YtkolflcjkofleaaDoor
open Go.ChangeShapes Go.WideShapes Go.ChangeAt Go.RowKit
set_option linter.unusedVariables false
set_option maxRecDepth 8000
set_option linter.unusedSimpArgs false

theorem two_new2 (w : World) (o1 o2 : Obj) : ((w.alloc o1).alloc o2).heap[w.heap.size + 1]? = some o2 ∧ Below w.heap.size w ((w.alloc o1).alloc o2) := by
  have h1 : (w.alloc o1).heap.size = w.heap.size + 1 := by simp
  refine ⟨?_, ((Below.refl _ _).alloc (Nat.le_refl _) _).alloc (by simp) _⟩
  rw [← h1]
  exact Array.getElem?_push_size
def PrR (e : Ex) (P : Nat → Prop) (w : World) (r : Ending) (w' : World) : Prop := ∃ (c : Option Addr) (cp : Nat), r = .returned (.tuple #[.agg ((prtX e).1.cs c cp), .int .i64 (prtX e).2]) ∧ PX w' P (prtX e).1 c ∧ Below w.heap.size w w'
theorem Bx.pend {w wr : World} {pr : Array Value} {P : Nat → Prop} {e x : Ex} {m : Int} {c : Option Addr} {cp : Nat} (h : Bx w wr pr) (hp : prtX e = (x, m)) (hx : PX wr (Ow w P) x c) (row : Array Value) : PrR e P w (.returned (.tuple #[.agg #[.int .i64 x.k, .int .i64 x.n, .string x.s, .slice c x.l.length cp], .int .i64 m])) (wr.setRow (w.heap.size + 1) row) := by
  unfold PrR
  rw [hp]
  exact ⟨c, cp, rfl, (hx.row _ (ow_no w P)).mono (fun b hb => hb.1), h.bel.grown (grownBy_row _) h.bel.size (fun k e => by cases e; omega)⟩
set_option maxHeartbeats 4000000 in
theorem prtS_no (e : Ex) (c : Option Addr) (cp : Nat) (P : Nat → Prop) (w : World) (h : PX w P e c) (hp : prtX e = (e, 0)) (h5 : e.k ≠ 5) : Calls Tryd.prog 92 #[.agg (e.cs c cp)] w (PrR e P w) := by
  have X1 := hide (two_new2 w (.cells #[.int .i64 e.k, .int .i64 e.n, .string e.s, .slice c e.l.length cp] 26) (.cells #[.int .i64 e.k, .int .i64 e.n, .string e.s, .slice c e.l.length cp] 26)).symm
  have A1 := hide (h.later (unhide X1).1)
  have g5 : (e.k == 5) = false := beq_eq_false_iff_ne.2 h5
  have PP := hide hp
  generalize hX : PrR e P w = X
  have HX := hide hX
  unfold Ex.cs
  clear h hX hp
  go_enter Tryd.func92, Tryd.ntmps92
  go_wp2
  refine bodyPost_ret (results_row2 (P := Tryd.prog) rfl _ _ (w.heap.size + 1) 26 #[.int .i64 e.k, .int .i64 e.n, .string e.s, .slice c e.l.length cp] (0, 0) _ rfl (unhide X1).2 Tryd.underlying26 rfl szE) rfl ?_
  rw [← unhide HX]
  unfold PrR
  rw [unhide PP]
  exact ⟨c, cp, rfl, unhide A1, (unhide X1).1⟩
set_option maxHeartbeats 4000000 in
theorem prtS_no2 (e x y : Ex) (c : Option Addr) (cp : Nat) (P : Nat → Prop) (w : World) (h : PX w P e c) (hp : prtX e = (e, 0)) (hk : e.k = 5) (hl : e.l = [x, y]) (h1 : y.k ≠ 1) : Calls Tryd.prog 92 #[.agg (e.cs c cp)] w (PrR e P w) := by
  obtain ⟨k, n, s, l⟩ := e
  obtain rfl : k = 5 := hk
  obtain rfl : l = [x, y] := hl
  have g1 : (y.k == 1) = false := beq_eq_false_iff_ne.2 h1
  have X1 := hide (two_new2 w (.cells #[.int .i64 5, .int .i64 n, .string s, .slice c 2 cp] 26) (.cells #[.int .i64 5, .int .i64 n, .string s, .slice c 2 cp] 26)).symm
  have A1 := hide (h.later (unhide X1).1)
  have PP := hide hp
  have BZ := hide (two_new2 w (.cells #[.int .i64 5, .int .i64 n, .string s, .slice c 2 cp] 26) (.cells #[.int .i64 0, .int .i64 0, .string ⟨#[]⟩, .slice none 0 0] 26)).2
  have A2 := h.later (unhide BZ)
  obtain ⟨blk, d, dp, f, fp, rfl, hlt, ⟨a0, a1, a2, a3⟩, ⟨b0, b1, b2, b3⟩, _, _⟩ := A2.parts
  generalize hX : PrR ⟨5, n, s, [x, y]⟩ P w = X
  have HX := hide hX
  unfold Ex.cs
  clear h hX hp A2 h1
  go_enter Tryd.func92, Tryd.ntmps92
  go_wp2
  refine bodyPost_ret (results_row2 (P := Tryd.prog) rfl _ _ (w.heap.size + 1) 26 #[.int .i64 5, .int .i64 n, .string s, .slice (some ⟨blk, 0, none⟩) 2 cp] (0, 0) _ rfl (unhide X1).2 Tryd.underlying26 rfl szE) rfl ?_
  rw [← unhide HX]
  unfold PrR
  rw [unhide PP]
  exact ⟨_, cp, rfl, unhide A1, (unhide X1).1⟩
set_option maxHeartbeats 4000000 in
theorem prtS_yes (x : Ex) (m : Int) (c : Option Addr) (cp : Nat) (P : Nat → Prop) (w : World) (h : PX w P ⟨5, 0, E0, [x, ⟨1, m, E0, []⟩]⟩ c) : Calls Tryd.prog 92 #[.agg ((Ex.mk 5 0 E0 [x, ⟨1, m, E0, []⟩]).cs c cp)] w (PrR ⟨5, 0, E0, [x, ⟨1, m, E0, []⟩]⟩ P w) := by
  obtain ⟨blk, d, dp, f, fp, rfl, hlt0, _, _, _, _⟩ := h.parts
  have X0 := hide (Bx.new w #[.int .i64 5, .int .i64 0, .string ⟨#[]⟩, .slice (some ⟨blk, 0, none⟩) 2 cp])
  have A0 := h.ow (unhide X0).bel
  obtain ⟨blk', d, dp, f, fp, e', hlt, ⟨a0, a1, a2, a3⟩, ⟨b0, b1, b2, b3⟩, hx, _⟩ := A0.parts
  cases e'
  have HA := hide hx
  have PP := hide (show prtX ⟨5, 0, E0, [x, ⟨1, m, E0, []⟩]⟩ = (x, m) from rfl)
  generalize hX : PrR ⟨5, 0, E0, [x, ⟨1, m, E0, []⟩]⟩ P w = X
  have HX := hide hX
  show Calls Tryd.prog 92 #[.agg #[.int .i64 5, .int .i64 0, .string ⟨#[]⟩, .slice (some ⟨blk, 0, none⟩) 2 cp]] w X
  clear h hX A0 hx
  go_enter Tryd.func92, Tryd.ntmps92
  go_wp2
  generalize (w.alloc (.cells #[.int .i64 5, .int .i64 0, .string ⟨#[]⟩, .slice (some ⟨blk, 0, none⟩) 2 cp] 26)).alloc (.cells #[.int .i64 0, .int .i64 0, .string ⟨#[]⟩, .slice none 0 0] 26) = W at *
  have X1 := hide ((unhide X0).later (below_drew (w := W)))
  have A1 := hide ((unhide HA).later (below_drew (w := W)))
  have D1 := hide (show (fun v => v.heap[w.heap.size]? = some (.cells #[.int .i64 5, .int .i64 0, .string ⟨#[]⟩, .slice (some ⟨blk, 0, none⟩) 2 cp] 26 (0, 0)) ∧ (v.cell? ⟨blk, 0, none⟩ = some (.int .i64 x.k) ∧ v.cell? ⟨blk, 1, none⟩ = some (.int .i64 x.n) ∧ v.cell? ⟨blk, 2, none⟩ = some (.string x.s) ∧ v.cell? ⟨blk, 3, none⟩ = some (.slice d x.l.length dp)) ∧ v.cell? ⟨blk, 5, none⟩ = some (.int .i64 m)) W.drew from ⟨(unhide X1).box, ⟨a0, a1, a2, a3⟩, b1⟩)
  clear X0 HA a0 a1 a2 a3 b0 b1 b2 b3
  refine wp_region_held_drew (S := fun v => v.heap[w.heap.size]? = some (.cells #[.int .i64 5, .int .i64 0, .string ⟨#[]⟩, .slice (some ⟨blk, 0, none⟩) 2 cp] 26 (0, 0)) ∧ (v.cell? ⟨blk, 0, none⟩ = some (.int .i64 x.k) ∧ v.cell? ⟨blk, 1, none⟩ = some (.int .i64 x.n) ∧ v.cell? ⟨blk, 2, none⟩ = some (.string x.s) ∧ v.cell? ⟨blk, 3, none⟩ = some (.slice d x.l.length dp)) ∧ v.cell? ⟨blk, 5, none⟩ = some (.int .i64 m)) (by kernel_rfl) (unhide D1) (fun hS => ?_)
  have HS := hide hS
  clear hS
  generalize W.drew = W1 at *
  refine wpAnyH_take (i := 0) (v := .pointer (some ⟨w.heap.size, 3, none⟩)) rfl (by kernel_rfl) (by kernel_rfl) (by kernel_rfl) (fun _ _ _ h => h) (Or.inl ⟨by rfl, fun w hc => ?_⟩) (unhide HS) ?_
  · clear hc; go_simp
  go_simp
  refine wpAnyH_take (i := 1) (v := .slice (some ⟨blk, 0, none⟩) 2 cp) rfl (by kernel_rfl) (by kernel_rfl) (by kernel_rfl) (fun _ _ _ h => h) (Or.inl ⟨by rfl, fun w hc => ?_⟩) (unhide HS) ?_
  · have q := Lib.cell_of_heap hc.1 3; clear hc; go_simp
  go_simp
  refine wpAnyH_take (i := 2) (v := .pointer (some ⟨blk, 0, none⟩)) rfl (by kernel_rfl) (by kernel_rfl) (by kernel_rfl) (fun _ _ _ h => h) (Or.inl ⟨by rfl, fun w hc => ?_⟩) (unhide HS) ?_
  · clear hc; go_simp
  go_simp
  refine wpAnyH_take (i := 3) (v := .agg #[.int .i64 x.k, .int .i64 x.n, .string x.s, .slice d x.l.length dp]) rfl (by kernel_rfl) (by kernel_rfl) (by kernel_rfl) (fun _ _ _ h => h) (Or.inl ⟨by rfl, fun w hc => ?_⟩) (unhide HS) ?_
  · obtain ⟨_, ⟨h0, h1, h2, h3⟩, _⟩ := hc; go_simp
  go_simp
  refine wpAnyH_take (i := 4) (v := .pointer (some ⟨w.heap.size, 3, none⟩)) rfl (by kernel_rfl) (by kernel_rfl) (by kernel_rfl) (fun _ _ _ h => h) (Or.inl ⟨by rfl, fun w hc => ?_⟩) (unhide HS) ?_
  · clear hc; go_simp
  go_simp
  refine wpAnyH_take (i := 5) (v := .slice (some ⟨blk, 0, none⟩) 2 cp) rfl (by kernel_rfl) (by kernel_rfl) (by kernel_rfl) (fun _ _ _ h => h) (Or.inl ⟨by rfl, fun w hc => ?_⟩) (unhide HS) ?_
  · have q := Lib.cell_of_heap hc.1 3; clear hc; go_simp
  go_simp
  refine wpAnyH_take (i := 6) (v := .pointer (some ⟨blk, 4, none⟩)) rfl (by kernel_rfl) (by kernel_rfl) (by kernel_rfl) (fun _ _ _ h => h) (Or.inl ⟨by rfl, fun w hc => ?_⟩) (unhide HS) ?_
  · clear hc; go_simp
  go_simp
  refine wpAnyH_take (i := 7) (v := .pointer (some ⟨blk, 5, none⟩)) rfl (by kernel_rfl) (by kernel_rfl) (by kernel_rfl) (fun _ _ _ h => h) (Or.inl ⟨by rfl, fun w hc => ?_⟩) (unhide HS) ?_
  · clear hc; go_simp
  go_simp
  refine wpAnyH_take (i := 8) (v := .int .i64 m) rfl (by kernel_rfl) (by kernel_rfl) (by kernel_rfl) (fun _ _ _ h => h) (Or.inl ⟨by rfl, fun w hc => ?_⟩) (unhide HS) ?_
  · obtain ⟨_, _, h0⟩ := hc; go_simp
  go_simp
  refine wpAnyH_ready (rs := [9]) (by kernel_rfl) (by simp) ?_
  refine AllReadyH.cons rfl (fun K2 hK => ?_) AllReadyH.nil
  rw [if_pos (by rfl)]
  refine wp_store_row 26 _ _ rfl (w.heap.size + 1) #[.int .i64 x.k, .int .i64 x.n, .string x.s, .slice d x.l.length dp] rfl rfl 26 _ (unhide X1).res szE rfl (ex_one _ _ _ _ _ _) ?_
  have KE := fun (i : Nat) => (World.cell?_of_block (a := ⟨blk, i, none⟩) (setRow_other W1 (w.heap.size + 1) blk #[.int .i64 x.k, .int .i64 x.n, .string x.s, .slice d x.l.length dp] (by omega)))
  refine hK.out _ _ (⟨(setRow_other _ _ _ _ (by omega)).trans (unhide D1).1, ⟨(KE 0).trans (unhide D1).2.1.1, (KE 1).trans (unhide D1).2.1.2.1, (KE 2).trans (unhide D1).2.1.2.2.1, (KE 3).trans (unhide D1).2.1.2.2.2⟩, (KE 5).trans (unhide D1).2.2⟩) (fun hS => ?_)
  clear HS
  have HS := hide hS
  clear hS hK K2
  clear KE
  refine wpAnyH_take (i := 10) (v := .int .i64 m) rfl (by kernel_rfl) (by kernel_rfl) (by kernel_rfl) (fun _ _ _ h => h) (Or.inl ⟨by rfl, fun w hc => ?_⟩) (unhide HS) ?_
  · clear hc; go_simp
  go_simp
  refine wpAnyH_done (by kernel_rfl) ?_ _
  clear HS D1
  go_wp2
  refine bodyPost_ret (results_row2 (P := Tryd.prog) rfl _ _ (w.heap.size + 1) 26 #[.int .i64 x.k, .int .i64 x.n, .string x.s, .slice d x.l.length dp] (0, 0) _ rfl (setRow_heap _ _ _ _ _ _ (unhide X1).res) Tryd.underlying26 rfl szE) rfl ?_
  rw [← unhide HX]
  exact (unhide X1).pend (unhide PP) (unhide A1) _
theorem prtS_any {d : Nat} (e : Ex) (ho : okF (d + 1) false e = true) (c : Option Addr) (cp : Nat) (P : Nat → Prop) (w : World) (h : PX w P e c) : Calls Tryd.prog 92 #[.agg (e.cs c cp)] w (PrR e P w) := by
  rcases prt_cases ho with ⟨hp, hn⟩ | ⟨b, m, hm, rfl, _, _⟩
  · by_cases h5 : e.k = 5
    · rcases ok_sev ho with ⟨n, hn, rfl⟩ | ⟨s, hs, rfl⟩ | rfl | ⟨n, hn, rfl⟩ | ⟨s, hs, rfl⟩ | ⟨a, ha, rfl⟩ | ⟨k, a, b, hk, ha, hb, rfl⟩
      · exact absurd (show (1 : Int) = 5 from h5) (by decide)
      · exact absurd (show (2 : Int) = 5 from h5) (by decide)
      · exact absurd (show (3 : Int) = 5 from h5) (by decide)
      · exact absurd (show (11 : Int) = 5 from h5) (by decide)
      · exact absurd (show (12 : Int) = 5 from h5) (by decide)
      · exact absurd (show (4 : Int) = 5 from h5) (by decide)
      · exact prtS_no2 _ a b c cp P w h hp h5 rfl (fun e1 => hn ⟨h5, e1⟩)
    · exact prtS_no e c cp P w h hp h5
  · exact prtS_yes b m c cp P w h
end Go.Proofs.YtkolflcjkofleaaDoor

namespace Go.Proofs.YtkolflcjkofleaaDoor
open Go.ChangeShapes Go.WideShapes Go.ChangeAt Go.RowKit
set_option linter.unusedVariables false
set_option maxRecDepth 8000
set_option linter.unusedSimpArgs false

theorem prt_in {d : Nat} {a : Ex} (h : okF (d + 1) false a = true) : 0 ≤ (prtX a).2 ∧ (prtX a).2 ≤ 65535 := by
  rcases prt_cases h with ⟨e, _⟩ | ⟨b, m, hm, rfl, e, hb⟩
  · rw [e]; exact ⟨Int.le_refl _, show (0 : Int) ≤ 65535 by decide⟩
  · rw [e]; exact hm
set_option maxHeartbeats 4000000 in
theorem sumS_any {d : Nat} (a : Ex) (ho : okF (d + 1) false a = true) (c : Option Addr) (cp : Nat) (n : Int) (hn : -65535 ≤ n ∧ n ≤ 65535) (P : Nat → Prop) (w : World) (h : PX w P a c) (hP : ∀ b, w.heap.size ≤ b → P b) : Calls Tryd.prog 80 #[.agg (a.cs c cp), .int .i64 n] w (GiR (sumX a n) P w) := by
  have X0 := hide (Bx.new w #[.int .i64 a.k, .int .i64 a.n, .string a.s, .slice c a.l.length cp])
  have PR := hide (prtS_any a ho c cp (Ow w P) _ (h.ow (unhide X0).bel))
  have HP := hide hP
  have hpi := prt_in ho
  have EQ := hide (show sumX a n = addX (prtX a).1 ((prtX a).2 + n) from rfl)
  generalize hX : GiR (sumX a n) P w = X
  have HX := hide hX
  unfold PrR at PR
  generalize prtX a = pa at *
  obtain ⟨x, m⟩ := pa
  simp only at PR hpi EQ
  rw [unhide EQ] at HX
  unfold Ex.cs at PR ⊢
  clear h hP hX EQ ho
  go_enter Tryd.func80, Tryd.ntmps80
  go_wp2_with fail
  generalize (w.alloc (.cells #[.int .i64 a.k, .int .i64 a.n, .string a.s, .slice c a.l.length cp] 26)).alloc (.cells #[.int .i64 0, .int .i64 0, .string ⟨#[]⟩, .slice none 0 0] 26) = W at *
  refine (unhide PR).mono ?_
  rintro r w1 ⟨c1, cp1, rfl, hx1, hb1⟩
  have X1 := (unhide X0).later hb1
  have hb2 := below_new w1 (.cells #[.int .i64 x.k, .int .i64 x.n, .string x.s, .slice c1 x.l.length cp1] 26)
  have X2 := hide (X1.later hb2)
  have G2 := hide (show (w1.alloc (.cells #[.int .i64 x.k, .int .i64 x.n, .string x.s, .slice c1 x.l.length cp1] 26)).heap[w1.heap.size]? = some (.cells #[.int .i64 x.k, .int .i64 x.n, .string x.s, .slice c1 x.l.length cp1] 26 (0, 0)) from Array.getElem?_push_size)
  have AD := hide (addS_any x c1 cp1 (m + n) (Ow w P) _ (hx1.later hb2) (fun b hb => ow_in (unhide HP) (Nat.le_trans (unhide X2).lt hb)))
  unfold GiR Ex.cs at AD
  clear hx1 hb1 hb2 X1 X0 PR
  go_wp2_with (refine wpList_load_row rfl 26 _ rfl w1.heap.size rfl 26 #[.int .i64 x.k, .int .i64 x.n, .string x.s, .slice c1 x.l.length cp1] (0, 0) _ (unhide G2) Tryd.underlying26 rfl (by kernel_rfl) ?_)
  generalize w1.alloc (.cells #[.int .i64 x.k, .int .i64 x.n, .string x.s, .slice c1 x.l.length cp1] 26) = w2 at *
  generalize w1.heap.size = g1 at *
  refine (unhide AD).mono ?_
  rintro r w3 ⟨c3, cp3, rfl, hx3, hb3⟩
  have X3 := hide ((unhide X2).later hb3)
  have A3 := hide hx3
  clear hx3 hb3 X2 G2 AD
  generalize addX x (m + n) = y at *
  go_wp2_with (refine wpList_store_row rfl 26 _ _ rfl (w.heap.size + 1) #[.int .i64 y.k, .int .i64 y.n, .string y.s, .slice c3 y.l.length cp3] rfl rfl 26 _ ((unhide X3).res) szE rfl (ex_one _ _ _ _ _ _) ?_)
  refine bodyPost_ret (results_cell_row (P := Tryd.prog) rfl _ _ (w.heap.size + 1) 26 #[.int .i64 y.k, .int .i64 y.n, .string y.s, .slice c3 y.l.length cp3] (0, 0) _ rfl (setRow_heap _ _ _ _ _ _ ((unhide X3).res)) Tryd.underlying26 rfl szE) rfl ?_
  rw [← unhide HX]
  exact (unhide X3).end (unhide A3) _
/-- The rows of a function of two terms: the arguments, and what is answered. -/
structure By (w wr : World) (pa pb : Array Value) : Prop where
  bel : Below w.heap.size w wr
  lt : w.heap.size + 3 ≤ wr.heap.size
  boxa : wr.heap[w.heap.size]? = some (.cells pa 26 (0, 0))
  boxb : wr.heap[w.heap.size + 1]? = some (.cells pb 26 (0, 0))
  res : wr.heap[w.heap.size + 2]? = some (.cells #[.int .i64 0, .int .i64 0, .string ⟨#[]⟩, .slice none 0 0] 26 (0, 0))
theorem By.later {w wr w' : World} {pa pb : Array Value} (h : By w wr pa pb) (hb : Below wr.heap.size wr w') : By w w' pa pb := ⟨h.bel.trans (hb.mono h.bel.size), Nat.le_trans h.lt hb.size, row_keep h.boxa hb, row_keep h.boxb hb, row_keep h.res hb⟩
theorem By.new (w : World) (pa pb : Array Value) : By w (((w.alloc (.cells pa 26)).alloc (.cells pb 26)).alloc (.cells #[.int .i64 0, .int .i64 0, .string ⟨#[]⟩, .slice none 0 0] 26)) pa pb := by
  have hb := (((Below.refl w.heap.size w).alloc (Nat.le_refl _) (.cells pa 26)).alloc (by simp) (.cells pb 26)).alloc (by simp; omega) (.cells #[.int .i64 0, .int .i64 0, .string ⟨#[]⟩, .slice none 0 0] 26)
  have h1 : (w.alloc (.cells pa 26)).heap.size = w.heap.size + 1 := by simp
  have h2 : ((w.alloc (.cells pa 26)).alloc (.cells pb 26)).heap.size = w.heap.size + 2 := by simp
  refine ⟨hb, by simp, ?_, ?_, ?_⟩
  · exact row_keep (row_keep (heap_alloc_new w _) (below_new _ _)) (below_new _ _)
  · refine row_keep ?_ (below_new _ _)
    rw [← h1]; exact Array.getElem?_push_size
  · rw [← h2]; exact Array.getElem?_push_size
def Oy (w : World) (P : Nat → Prop) (b : Nat) : Prop := P b ∧ (b < w.heap.size ∨ w.heap.size + 3 ≤ b)
theorem oy_no (w : World) (P : Nat → Prop) : ¬ Oy w P (w.heap.size + 2) := fun h => by have := h.2; omega
theorem oy_in {w : World} {P : Nat → Prop} (hP : ∀ b, w.heap.size ≤ b → P b) {b : Nat} (h : w.heap.size + 3 ≤ b) : Oy w P b := ⟨hP b (by omega), .inr h⟩
theorem PX.oy {w w' : World} {P : Nat → Prop} {e : Ex} {c : Option Addr} (h : PX w P e c) (hb : Below w.heap.size w w') : PX w' (Oy w P) e c := (h.low.mono (fun b hb => ⟨hb.1, .inl hb.2⟩)).later hb
theorem By.end {w wr : World} {pa pb : Array Value} {P : Nat → Prop} {x : Ex} {c : Option Addr} {cp : Nat} (h : By w wr pa pb) (hx : PX wr (Oy w P) x c) (row : Array Value) : GiR x P w (.returned (.agg #[.int .i64 x.k, .int .i64 x.n, .string x.s, .slice c x.l.length cp])) (wr.setRow (w.heap.size + 2) row) :=
  ⟨c, cp, rfl, (hx.row _ (oy_no w P)).mono (fun b hb => hb.1), h.bel.grown (grownBy_row _) h.bel.size (fun k e => by cases e; omega)⟩
set_option maxHeartbeats 4000000 in
theorem subS_num {d : Nat} (a b : Ex) (oa : okF (d + 1) false a = true) (ob : okF (d + 1) false b = true) (c e : Option Addr) (cp ep : Nat) (P Q R : Nat → Prop) (w : World) (ha : PX w P a c) (hb : PX w Q b e) (hPQ : ∀ b, P b → ¬ Q b) (hPR : ∀ b, P b → R b) (hQR : ∀ b, Q b → R b) (hR : ∀ b, w.heap.size ≤ b → R b) (h1 : b.k = 1) : Calls Tryd.prog 79 #[.agg (a.cs c cp), .agg (b.cs e ep)] w (GiR (subX a b) R w) := by
  obtain ⟨m, hm, rfl⟩ := ok_k1 ob h1
  have X0 := hide (By.new w #[.int .i64 a.k, .int .i64 a.n, .string a.s, .slice c a.l.length cp] #[.int .i64 1, .int .i64 m, .string E0, .slice e 0 ep])
  have SU := hide (sumS_any a oa c cp (-m) (by omega) (Oy w R) _ ((ha.oy (unhide X0).bel).mono (fun b h => ⟨hPR b h.1, h.2⟩)) (fun b h => oy_in hR (Nat.le_trans (unhide X0).lt h)))
  have EQ := hide (show subX a ⟨1, m, E0, []⟩ = sumX a (-m) by unfold subX; rw [if_pos rfl])
  rw [unhide EQ]
  generalize hX : GiR (sumX a (-m)) R w = X
  have HX := hide hX
  unfold GiR Ex.cs at SU
  show Calls Tryd.prog 79 #[.agg #[.int .i64 a.k, .int .i64 a.n, .string a.s, .slice c a.l.length cp], .agg #[.int .i64 1, .int .i64 m, .string E0, .slice e 0 ep]] w X
  clear hX EQ oa ob ha hb hPQ hPR hQR hR h1
  go_enter Tryd.func79, Tryd.ntmps79
  go_wp2_with fail
  generalize ((w.alloc (.cells #[.int .i64 a.k, .int .i64 a.n, .string a.s, .slice c a.l.length cp] 26)).alloc (.cells #[.int .i64 1, .int .i64 m, .string E0, .slice e 0 ep] 26)).alloc (.cells #[.int .i64 0, .int .i64 0, .string ⟨#[]⟩, .slice none 0 0] 26) = W at *
  refine (unhide SU).mono ?_
  rintro r w3 ⟨c3, cp3, rfl, hx3, hb3⟩
  have X3 := hide ((unhide X0).later hb3)
  have A3 := hide hx3
  clear hx3 hb3 X0 SU
  generalize sumX a (-m) = y at *
  go_wp2_with (refine wpList_store_row rfl 26 _ _ rfl (w.heap.size + 2) #[.int .i64 y.k, .int .i64 y.n, .string y.s, .slice c3 y.l.length cp3] rfl rfl 26 _ ((unhide X3).res) szE rfl (ex_one _ _ _ _ _ _) ?_)
  refine bodyPost_ret (results_cell_row (P := Tryd.prog) rfl _ _ (w.heap.size + 2) 26 #[.int .i64 y.k, .int .i64 y.n, .string y.s, .slice c3 y.l.length cp3] (0, 0) _ rfl (setRow_heap _ _ _ _ _ _ ((unhide X3).res)) Tryd.underlying26 rfl szE) rfl ?_
  rw [← unhide HX]
  exact (unhide X3).end (unhide A3) _
set_option maxHeartbeats 8000000 in
theorem subS_sect {d : Nat} (a b : Ex) (oa : okF (d + 1) false a = true) (ob : okF (d + 1) false b = true) (c e : Option Addr) (cp ep : Nat) (P Q R : Nat → Prop) (w : World) (ha : PX w P a c) (hb : PX w Q b e) (hPQ : ∀ b, P b → ¬ Q b) (hPR : ∀ b, P b → R b) (hQR : ∀ b, Q b → R b) (hR : ∀ b, w.heap.size ≤ b → R b) (h1 : b.k ≠ 1) (f0 : ((prtX a).1.k == 11) = true) (f1 : ((prtX b).1.k == 11) = true) (f2 : ((prtX a).1.n == (prtX b).1.n) = true) : Calls Tryd.prog 79 #[.agg (a.cs c cp), .agg (b.cs e ep)] w (GiR (subX a b) R w) := by
  have X0 := hide (By.new w #[.int .i64 a.k, .int .i64 a.n, .string a.s, .slice c a.l.length cp] #[.int .i64 b.k, .int .i64 b.n, .string b.s, .slice e b.l.length ep])
  have A0 := hide (ha.oy (unhide X0).bel)
  have C0 := hide (hb.oy (unhide X0).bel)
  have PA := hide (prtS_any a oa c cp (Oy w P) _ (unhide A0))
  have PB := hide (fun wr (h : PX wr (Oy w Q) b e) => prtS_any b ob e ep (Oy w Q) wr h)
  have HR := hide hR
  have DJ := hide (show ∀ b, Oy w P b → ¬ Oy w Q b from fun b h k => hPQ b h.1 k.1)
  have PR := hide (show ∀ b, Oy w P b → Oy w R b from fun b h => ⟨hPR b h.1, h.2⟩)
  have QR := hide (show ∀ b, Oy w Q b → Oy w R b from fun b h => ⟨hQR b h.1, h.2⟩)
  have ia := prt_in oa
  have ib := prt_in ob
  have g1 : (b.k == 1) = false := beq_eq_false_iff_ne.2 h1
  have EQ := hide (show subX a b = numX ((prtX a).2 - (prtX b).2) by unfold subX; rw [if_neg h1, if_pos ⟨beq_iff_eq.1 f0, beq_iff_eq.1 f1, beq_iff_eq.1 f2⟩])
  unfold PrR at PA PB
  generalize prtX a = pa at *
  generalize prtX b = pb at *
  obtain ⟨x, n⟩ := pa
  obtain ⟨y, k⟩ := pb
  simp only at PA PB ia ib EQ f0 f1 f2
  rw [unhide EQ]
  generalize hX : GiR _ R w = X
  have HX := hide hX
  unfold Ex.cs at PA PB ⊢
  clear hX EQ oa ob ha hb hPQ hPR hQR hR h1
  go_enter Tryd.func79, Tryd.ntmps79
  go_wp2_with fail
  generalize ((w.alloc (.cells #[.int .i64 a.k, .int .i64 a.n, .string a.s, .slice c a.l.length cp] 26)).alloc (.cells #[.int .i64 b.k, .int .i64 b.n, .string b.s, .slice e b.l.length ep] 26)).alloc (.cells #[.int .i64 0, .int .i64 0, .string ⟨#[]⟩, .slice none 0 0] 26) = W at *
  refine (unhide PA).mono ?_
  rintro r w1 ⟨c1, cp1, rfl, hx1, hb1⟩
  clear hx1
  have X1 := (unhide X0).later hb1
  have A1 := (unhide A0).later hb1
  have C1 := (unhide C0).later hb1
  have hb2 := below_new w1 (.cells #[.int .i64 x.k, .int .i64 x.n, .string x.s, .slice c1 x.l.length cp1] 26)
  have X2 := hide (X1.later hb2)
  have A2 := hide (A1.later hb2)
  have C2 := hide (C1.later hb2)
  have G2 := hide (show (w1.alloc (.cells #[.int .i64 x.k, .int .i64 x.n, .string x.s, .slice c1 x.l.length cp1] 26)).heap[w1.heap.size]? = some (.cells #[.int .i64 x.k, .int .i64 x.n, .string x.s, .slice c1 x.l.length cp1] 26 (0, 0)) from Array.getElem?_push_size)
  have PB2 := hide (unhide PB _ (unhide C2))
  clear hb1 hb2 X1 A1 C1 X0 A0 C0 PA PB
  go_wp2_with (refine wpList_load_row rfl 26 _ rfl (w.heap.size + 1) rfl 26 #[.int .i64 b.k, .int .i64 b.n, .string b.s, .slice e b.l.length ep] (0, 0) _ ((unhide X2).boxb) Tryd.underlying26 rfl (by kernel_rfl) ?_)
  generalize w1.alloc (.cells #[.int .i64 x.k, .int .i64 x.n, .string x.s, .slice c1 x.l.length cp1] 26) = w2 at *
  generalize w1.heap.size = g1' at *
  refine (unhide PB2).mono ?_
  rintro r w3 ⟨c3, cp3, rfl, hx3, hb3⟩
  clear hx3
  have X3 := (unhide X2).later hb3
  have A3 := (unhide A2).later hb3
  have C3 := (unhide C2).later hb3
  have G3 := row_keep (unhide G2) hb3
  have hb4 := below_new w3 (.cells #[.int .i64 y.k, .int .i64 y.n, .string y.s, .slice c3 y.l.length cp3] 26)
  have X4 := hide (X3.later hb4)
  have A4 := hide (A3.later hb4)
  have C4 := hide (C3.later hb4)
  have G4 := row_keep G3 hb4
  have K4 := (show (w3.alloc (.cells #[.int .i64 y.k, .int .i64 y.n, .string y.s, .slice c3 y.l.length cp3] 26)).heap[w3.heap.size]? = some (.cells #[.int .i64 y.k, .int .i64 y.n, .string y.s, .slice c3 y.l.length cp3] 26 (0, 0)) from Array.getElem?_push_size)
  have x0 := Lib.cell_of_heap G4 0
  have x1 := Lib.cell_of_heap G4 1
  have y0 := Lib.cell_of_heap K4 0
  have y1 := Lib.cell_of_heap K4 1
  clear hb3 hb4 X3 A3 C3 G3 X2 A2 C2 G2 PB2 G4 K4
  go_wp2_with fail
  generalize w3.alloc (.cells #[.int .i64 y.k, .int .i64 y.n, .string y.s, .slice c3 y.l.length cp3] 26) = w4 at *
  generalize w3.heap.size = g3 at *
  clear x0 x1 y0 y1
  have NU := hide (numD (n - k) w4)
  refine (unhide NU).mono ?_
  rintro r w5 ⟨rfl, hb5⟩
  have X5 := hide ((unhide X4).later hb5)
  have N5 := hide (PX.leaf w5 (Oy w R) 1 ((n - k) % 65536) (⟨#[]⟩ : ByteArray) none)
  clear hb5 X4 A4 C4 NU
  go_wp2_with (refine wpList_store_row rfl 26 _ _ rfl (w.heap.size + 2) #[.int .i64 1, .int .i64 ((n - k) % 65536), .string ⟨#[]⟩, .slice none 0 0] rfl rfl 26 _ ((unhide X5).res) szE rfl (ex_one _ _ _ _ _ _) ?_)
  refine bodyPost_ret (results_cell_row (P := Tryd.prog) rfl _ _ (w.heap.size + 2) 26 #[.int .i64 1, .int .i64 ((n - k) % 65536), .string ⟨#[]⟩, .slice none 0 0] (0, 0) _ rfl (setRow_heap _ _ _ _ _ _ ((unhide X5).res)) Tryd.underlying26 rfl szE) rfl ?_
  rw [← unhide HX]
  exact By.end (x := numX (n - k)) (unhide X5) (unhide N5) _
set_option maxHeartbeats 8000000 in
theorem subS_n0 {d : Nat} (a b : Ex) (oa : okF (d + 1) false a = true) (ob : okF (d + 1) false b = true) (c e : Option Addr) (cp ep : Nat) (P Q R : Nat → Prop) (w : World) (ha : PX w P a c) (hb : PX w Q b e) (hPQ : ∀ b, P b → ¬ Q b) (hPR : ∀ b, P b → R b) (hQR : ∀ b, Q b → R b) (hR : ∀ b, w.heap.size ≤ b → R b) (h1 : b.k ≠ 1) (f0 : ((prtX a).1.k == 11) = false) : Calls Tryd.prog 79 #[.agg (a.cs c cp), .agg (b.cs e ep)] w (GiR (subX a b) R w) := by
  have X0 := hide (By.new w #[.int .i64 a.k, .int .i64 a.n, .string a.s, .slice c a.l.length cp] #[.int .i64 b.k, .int .i64 b.n, .string b.s, .slice e b.l.length ep])
  have A0 := hide (ha.oy (unhide X0).bel)
  have C0 := hide (hb.oy (unhide X0).bel)
  have PA := hide (prtS_any a oa c cp (Oy w P) _ (unhide A0))
  have PB := hide (fun wr (h : PX wr (Oy w Q) b e) => prtS_any b ob e ep (Oy w Q) wr h)
  have HR := hide hR
  have DJ := hide (show ∀ b, Oy w P b → ¬ Oy w Q b from fun b h k => hPQ b h.1 k.1)
  have PR := hide (show ∀ b, Oy w P b → Oy w R b from fun b h => ⟨hPR b h.1, h.2⟩)
  have QR := hide (show ∀ b, Oy w Q b → Oy w R b from fun b h => ⟨hQR b h.1, h.2⟩)
  have ia := prt_in oa
  have ib := prt_in ob
  have g1 : (b.k == 1) = false := beq_eq_false_iff_ne.2 h1
  have EQ := hide (show subX a b = ⟨6, 0, ⟨#[]⟩, [a, b]⟩ by unfold subX; rw [if_neg h1, if_neg (fun h => by have := beq_eq_false_iff_ne.1 f0; exact this h.1)]; rfl)
  unfold PrR at PA PB
  generalize prtX a = pa at *
  generalize prtX b = pb at *
  obtain ⟨x, n⟩ := pa
  obtain ⟨y, k⟩ := pb
  simp only at PA PB ia ib EQ f0
  rw [unhide EQ]
  generalize hX : GiR _ R w = X
  have HX := hide hX
  unfold Ex.cs at PA PB ⊢
  clear hX EQ oa ob ha hb hPQ hPR hQR hR h1
  go_enter Tryd.func79, Tryd.ntmps79
  go_wp2_with fail
  generalize ((w.alloc (.cells #[.int .i64 a.k, .int .i64 a.n, .string a.s, .slice c a.l.length cp] 26)).alloc (.cells #[.int .i64 b.k, .int .i64 b.n, .string b.s, .slice e b.l.length ep] 26)).alloc (.cells #[.int .i64 0, .int .i64 0, .string ⟨#[]⟩, .slice none 0 0] 26) = W at *
  refine (unhide PA).mono ?_
  rintro r w1 ⟨c1, cp1, rfl, hx1, hb1⟩
  clear hx1
  have X1 := (unhide X0).later hb1
  have A1 := (unhide A0).later hb1
  have C1 := (unhide C0).later hb1
  have hb2 := below_new w1 (.cells #[.int .i64 x.k, .int .i64 x.n, .string x.s, .slice c1 x.l.length cp1] 26)
  have X2 := hide (X1.later hb2)
  have A2 := hide (A1.later hb2)
  have C2 := hide (C1.later hb2)
  have G2 := hide (show (w1.alloc (.cells #[.int .i64 x.k, .int .i64 x.n, .string x.s, .slice c1 x.l.length cp1] 26)).heap[w1.heap.size]? = some (.cells #[.int .i64 x.k, .int .i64 x.n, .string x.s, .slice c1 x.l.length cp1] 26 (0, 0)) from Array.getElem?_push_size)
  have PB2 := hide (unhide PB _ (unhide C2))
  clear hb1 hb2 X1 A1 C1 X0 A0 C0 PA PB
  go_wp2_with (refine wpList_load_row rfl 26 _ rfl (w.heap.size + 1) rfl 26 #[.int .i64 b.k, .int .i64 b.n, .string b.s, .slice e b.l.length ep] (0, 0) _ ((unhide X2).boxb) Tryd.underlying26 rfl (by kernel_rfl) ?_)
  generalize w1.alloc (.cells #[.int .i64 x.k, .int .i64 x.n, .string x.s, .slice c1 x.l.length cp1] 26) = w2 at *
  generalize w1.heap.size = g1' at *
  refine (unhide PB2).mono ?_
  rintro r w3 ⟨c3, cp3, rfl, hx3, hb3⟩
  clear hx3
  have X3 := (unhide X2).later hb3
  have A3 := (unhide A2).later hb3
  have C3 := (unhide C2).later hb3
  have G3 := row_keep (unhide G2) hb3
  have hb4 := below_new w3 (.cells #[.int .i64 y.k, .int .i64 y.n, .string y.s, .slice c3 y.l.length cp3] 26)
  have X4 := hide (X3.later hb4)
  have A4 := hide (A3.later hb4)
  have C4 := hide (C3.later hb4)
  have G4 := row_keep G3 hb4
  have K4 := (show (w3.alloc (.cells #[.int .i64 y.k, .int .i64 y.n, .string y.s, .slice c3 y.l.length cp3] 26)).heap[w3.heap.size]? = some (.cells #[.int .i64 y.k, .int .i64 y.n, .string y.s, .slice c3 y.l.length cp3] 26 (0, 0)) from Array.getElem?_push_size)
  have x0 := Lib.cell_of_heap G4 0
  have x1 := Lib.cell_of_heap G4 1
  have y0 := Lib.cell_of_heap K4 0
  have y1 := Lib.cell_of_heap K4 1
  clear hb3 hb4 X3 A3 C3 G3 X2 A2 C2 G2 PB2 G4 K4
  have hb5 := below_new (w3.alloc (.cells #[.int .i64 y.k, .int .i64 y.n, .string y.s, .slice c3 y.l.length cp3] 26)) (.cells #[.int .i64 a.k, .int .i64 a.n, .string a.s, .slice c a.l.length cp, .int .i64 b.k, .int .i64 b.n, .string b.s, .slice e b.l.length ep] 26)
  have X5 := hide ((unhide X4).later hb5)
  have hz5 : (w3.alloc (.cells #[.int .i64 y.k, .int .i64 y.n, .string y.s, .slice c3 y.l.length cp3] 26)).heap.size = w3.heap.size + 1 := by simp
  have N5' := (show PX ((w3.alloc (.cells #[.int .i64 y.k, .int .i64 y.n, .string y.s, .slice c3 y.l.length cp3] 26)).alloc (.cells #[.int .i64 a.k, .int .i64 a.n, .string a.s, .slice c a.l.length cp, .int .i64 b.k, .int .i64 b.n, .string b.s, .slice e b.l.length ep] 26)) (Oy w R) ⟨6, 0, ⟨#[]⟩, [a, b]⟩ (some ⟨(w3.alloc (.cells #[.int .i64 y.k, .int .i64 y.n, .string y.s, .slice c3 y.l.length cp3] 26)).heap.size, 0, none⟩) from (unhide A4).two (unhide C4) (unhide DJ) (unhide PR) (unhide QR) (oy_in (unhide HR) (unhide X4).lt) 6 0 ⟨#[]⟩ 26)
  rw [hz5] at N5'
  have N5 := hide N5'
  clear N5' hz5
  clear hb5
  go_wp2_with (first | (refine wpList_load_row rfl 26 _ rfl w.heap.size rfl 26 #[.int .i64 a.k, .int .i64 a.n, .string a.s, .slice c a.l.length cp] (0, 0) _ ((unhide X4).boxa) Tryd.underlying26 rfl (by kernel_rfl) ?_) | (refine wpList_load_row rfl 26 _ rfl (w.heap.size + 1) rfl 26 #[.int .i64 b.k, .int .i64 b.n, .string b.s, .slice e b.l.length ep] (0, 0) _ ((unhide X4).boxb) Tryd.underlying26 rfl (by kernel_rfl) ?_) | (refine wpList_store_row rfl 26 _ _ rfl (w.heap.size + 2) #[.int .i64 6, .int .i64 0, .string ⟨#[]⟩, .slice (some ⟨w3.heap.size + 1, 0, none⟩) 2 2] rfl rfl 26 _ (unhide X5).res szE rfl (ex_one _ _ _ _ _ _) ?_))
  refine bodyPost_ret (results_cell_row (P := Tryd.prog) rfl _ _ (w.heap.size + 2) 26 #[.int .i64 6, .int .i64 0, .string ⟨#[]⟩, .slice (some ⟨w3.heap.size + 1, 0, none⟩) 2 2] (0, 0) _ rfl (setRow_heap _ _ _ _ _ _ (unhide X5).res) Tryd.underlying26 rfl szE) rfl ?_
  rw [← unhide HX]
  exact By.end (x := ⟨6, 0, ⟨#[]⟩, [a, b]⟩) (unhide X5) (unhide N5) _
set_option maxHeartbeats 8000000 in
theorem subS_n1 {d : Nat} (a b : Ex) (oa : okF (d + 1) false a = true) (ob : okF (d + 1) false b = true) (c e : Option Addr) (cp ep : Nat) (P Q R : Nat → Prop) (w : World) (ha : PX w P a c) (hb : PX w Q b e) (hPQ : ∀ b, P b → ¬ Q b) (hPR : ∀ b, P b → R b) (hQR : ∀ b, Q b → R b) (hR : ∀ b, w.heap.size ≤ b → R b) (h1 : b.k ≠ 1) (f0 : ((prtX a).1.k == 11) = true) (f1 : ((prtX b).1.k == 11) = false) : Calls Tryd.prog 79 #[.agg (a.cs c cp), .agg (b.cs e ep)] w (GiR (subX a b) R w) := by
  have X0 := hide (By.new w #[.int .i64 a.k, .int .i64 a.n, .string a.s, .slice c a.l.length cp] #[.int .i64 b.k, .int .i64 b.n, .string b.s, .slice e b.l.length ep])
  have A0 := hide (ha.oy (unhide X0).bel)
  have C0 := hide (hb.oy (unhide X0).bel)
  have PA := hide (prtS_any a oa c cp (Oy w P) _ (unhide A0))
  have PB := hide (fun wr (h : PX wr (Oy w Q) b e) => prtS_any b ob e ep (Oy w Q) wr h)
  have HR := hide hR
  have DJ := hide (show ∀ b, Oy w P b → ¬ Oy w Q b from fun b h k => hPQ b h.1 k.1)
  have PR := hide (show ∀ b, Oy w P b → Oy w R b from fun b h => ⟨hPR b h.1, h.2⟩)
  have QR := hide (show ∀ b, Oy w Q b → Oy w R b from fun b h => ⟨hQR b h.1, h.2⟩)
  have ia := prt_in oa
  have ib := prt_in ob
  have g1 : (b.k == 1) = false := beq_eq_false_iff_ne.2 h1
  have EQ := hide (show subX a b = ⟨6, 0, ⟨#[]⟩, [a, b]⟩ by unfold subX; rw [if_neg h1, if_neg (fun h => by have := beq_eq_false_iff_ne.1 f1; exact this h.2.1)]; rfl)
  unfold PrR at PA PB
  generalize prtX a = pa at *
  generalize prtX b = pb at *
  obtain ⟨x, n⟩ := pa
  obtain ⟨y, k⟩ := pb
  simp only at PA PB ia ib EQ f0 f1
  rw [unhide EQ]
  generalize hX : GiR _ R w = X
  have HX := hide hX
  unfold Ex.cs at PA PB ⊢
  clear hX EQ oa ob ha hb hPQ hPR hQR hR h1
  go_enter Tryd.func79, Tryd.ntmps79
  go_wp2_with fail
  generalize ((w.alloc (.cells #[.int .i64 a.k, .int .i64 a.n, .string a.s, .slice c a.l.length cp] 26)).alloc (.cells #[.int .i64 b.k, .int .i64 b.n, .string b.s, .slice e b.l.length ep] 26)).alloc (.cells #[.int .i64 0, .int .i64 0, .string ⟨#[]⟩, .slice none 0 0] 26) = W at *
  refine (unhide PA).mono ?_
  rintro r w1 ⟨c1, cp1, rfl, hx1, hb1⟩
  clear hx1
  have X1 := (unhide X0).later hb1
  have A1 := (unhide A0).later hb1
  have C1 := (unhide C0).later hb1
  have hb2 := below_new w1 (.cells #[.int .i64 x.k, .int .i64 x.n, .string x.s, .slice c1 x.l.length cp1] 26)
  have X2 := hide (X1.later hb2)
  have A2 := hide (A1.later hb2)
  have C2 := hide (C1.later hb2)
  have G2 := hide (show (w1.alloc (.cells #[.int .i64 x.k, .int .i64 x.n, .string x.s, .slice c1 x.l.length cp1] 26)).heap[w1.heap.size]? = some (.cells #[.int .i64 x.k, .int .i64 x.n, .string x.s, .slice c1 x.l.length cp1] 26 (0, 0)) from Array.getElem?_push_size)
  have PB2 := hide (unhide PB _ (unhide C2))
  clear hb1 hb2 X1 A1 C1 X0 A0 C0 PA PB
  go_wp2_with (refine wpList_load_row rfl 26 _ rfl (w.heap.size + 1) rfl 26 #[.int .i64 b.k, .int .i64 b.n, .string b.s, .slice e b.l.length ep] (0, 0) _ ((unhide X2).boxb) Tryd.underlying26 rfl (by kernel_rfl) ?_)
  generalize w1.alloc (.cells #[.int .i64 x.k, .int .i64 x.n, .string x.s, .slice c1 x.l.length cp1] 26) = w2 at *
  generalize w1.heap.size = g1' at *
  refine (unhide PB2).mono ?_
  rintro r w3 ⟨c3, cp3, rfl, hx3, hb3⟩
  clear hx3
  have X3 := (unhide X2).later hb3
  have A3 := (unhide A2).later hb3
  have C3 := (unhide C2).later hb3
  have G3 := row_keep (unhide G2) hb3
  have hb4 := below_new w3 (.cells #[.int .i64 y.k, .int .i64 y.n, .string y.s, .slice c3 y.l.length cp3] 26)
  have X4 := hide (X3.later hb4)
  have A4 := hide (A3.later hb4)
  have C4 := hide (C3.later hb4)
  have G4 := row_keep G3 hb4
  have K4 := (show (w3.alloc (.cells #[.int .i64 y.k, .int .i64 y.n, .string y.s, .slice c3 y.l.length cp3] 26)).heap[w3.heap.size]? = some (.cells #[.int .i64 y.k, .int .i64 y.n, .string y.s, .slice c3 y.l.length cp3] 26 (0, 0)) from Array.getElem?_push_size)
  have x0 := Lib.cell_of_heap G4 0
  have x1 := Lib.cell_of_heap G4 1
  have y0 := Lib.cell_of_heap K4 0
  have y1 := Lib.cell_of_heap K4 1
  clear hb3 hb4 X3 A3 C3 G3 X2 A2 C2 G2 PB2 G4 K4
  have hb5 := below_new (w3.alloc (.cells #[.int .i64 y.k, .int .i64 y.n, .string y.s, .slice c3 y.l.length cp3] 26)) (.cells #[.int .i64 a.k, .int .i64 a.n, .string a.s, .slice c a.l.length cp, .int .i64 b.k, .int .i64 b.n, .string b.s, .slice e b.l.length ep] 26)
  have X5 := hide ((unhide X4).later hb5)
  have hz5 : (w3.alloc (.cells #[.int .i64 y.k, .int .i64 y.n, .string y.s, .slice c3 y.l.length cp3] 26)).heap.size = w3.heap.size + 1 := by simp
  have N5' := (show PX ((w3.alloc (.cells #[.int .i64 y.k, .int .i64 y.n, .string y.s, .slice c3 y.l.length cp3] 26)).alloc (.cells #[.int .i64 a.k, .int .i64 a.n, .string a.s, .slice c a.l.length cp, .int .i64 b.k, .int .i64 b.n, .string b.s, .slice e b.l.length ep] 26)) (Oy w R) ⟨6, 0, ⟨#[]⟩, [a, b]⟩ (some ⟨(w3.alloc (.cells #[.int .i64 y.k, .int .i64 y.n, .string y.s, .slice c3 y.l.length cp3] 26)).heap.size, 0, none⟩) from (unhide A4).two (unhide C4) (unhide DJ) (unhide PR) (unhide QR) (oy_in (unhide HR) (unhide X4).lt) 6 0 ⟨#[]⟩ 26)
  rw [hz5] at N5'
  have N5 := hide N5'
  clear N5' hz5
  clear hb5
  go_wp2_with (first | (refine wpList_load_row rfl 26 _ rfl w.heap.size rfl 26 #[.int .i64 a.k, .int .i64 a.n, .string a.s, .slice c a.l.length cp] (0, 0) _ ((unhide X4).boxa) Tryd.underlying26 rfl (by kernel_rfl) ?_) | (refine wpList_load_row rfl 26 _ rfl (w.heap.size + 1) rfl 26 #[.int .i64 b.k, .int .i64 b.n, .string b.s, .slice e b.l.length ep] (0, 0) _ ((unhide X4).boxb) Tryd.underlying26 rfl (by kernel_rfl) ?_) | (refine wpList_store_row rfl 26 _ _ rfl (w.heap.size + 2) #[.int .i64 6, .int .i64 0, .string ⟨#[]⟩, .slice (some ⟨w3.heap.size + 1, 0, none⟩) 2 2] rfl rfl 26 _ (unhide X5).res szE rfl (ex_one _ _ _ _ _ _) ?_))
  refine bodyPost_ret (results_cell_row (P := Tryd.prog) rfl _ _ (w.heap.size + 2) 26 #[.int .i64 6, .int .i64 0, .string ⟨#[]⟩, .slice (some ⟨w3.heap.size + 1, 0, none⟩) 2 2] (0, 0) _ rfl (setRow_heap _ _ _ _ _ _ (unhide X5).res) Tryd.underlying26 rfl szE) rfl ?_
  rw [← unhide HX]
  exact By.end (x := ⟨6, 0, ⟨#[]⟩, [a, b]⟩) (unhide X5) (unhide N5) _
set_option maxHeartbeats 8000000 in
theorem subS_n2 {d : Nat} (a b : Ex) (oa : okF (d + 1) false a = true) (ob : okF (d + 1) false b = true) (c e : Option Addr) (cp ep : Nat) (P Q R : Nat → Prop) (w : World) (ha : PX w P a c) (hb : PX w Q b e) (hPQ : ∀ b, P b → ¬ Q b) (hPR : ∀ b, P b → R b) (hQR : ∀ b, Q b → R b) (hR : ∀ b, w.heap.size ≤ b → R b) (h1 : b.k ≠ 1) (f0 : ((prtX a).1.k == 11) = true) (f1 : ((prtX b).1.k == 11) = true) (f2 : ((prtX a).1.n == (prtX b).1.n) = false) : Calls Tryd.prog 79 #[.agg (a.cs c cp), .agg (b.cs e ep)] w (GiR (subX a b) R w) := by
  have X0 := hide (By.new w #[.int .i64 a.k, .int .i64 a.n, .string a.s, .slice c a.l.length cp] #[.int .i64 b.k, .int .i64 b.n, .string b.s, .slice e b.l.length ep])
  have A0 := hide (ha.oy (unhide X0).bel)
  have C0 := hide (hb.oy (unhide X0).bel)
  have PA := hide (prtS_any a oa c cp (Oy w P) _ (unhide A0))
  have PB := hide (fun wr (h : PX wr (Oy w Q) b e) => prtS_any b ob e ep (Oy w Q) wr h)
  have HR := hide hR
  have DJ := hide (show ∀ b, Oy w P b → ¬ Oy w Q b from fun b h k => hPQ b h.1 k.1)
  have PR := hide (show ∀ b, Oy w P b → Oy w R b from fun b h => ⟨hPR b h.1, h.2⟩)
  have QR := hide (show ∀ b, Oy w Q b → Oy w R b from fun b h => ⟨hQR b h.1, h.2⟩)
  have ia := prt_in oa
  have ib := prt_in ob
  have g1 : (b.k == 1) = false := beq_eq_false_iff_ne.2 h1
  have EQ := hide (show subX a b = ⟨6, 0, ⟨#[]⟩, [a, b]⟩ by unfold subX; rw [if_neg h1, if_neg (fun h => by have := beq_eq_false_iff_ne.1 f2; exact this h.2.2)]; rfl)
  unfold PrR at PA PB
  generalize prtX a = pa at *
  generalize prtX b = pb at *
  obtain ⟨x, n⟩ := pa
  obtain ⟨y, k⟩ := pb
  simp only at PA PB ia ib EQ f0 f1 f2
  rw [unhide EQ]
  generalize hX : GiR _ R w = X
  have HX := hide hX
  unfold Ex.cs at PA PB ⊢
  clear hX EQ oa ob ha hb hPQ hPR hQR hR h1
  go_enter Tryd.func79, Tryd.ntmps79
  go_wp2_with fail
  generalize ((w.alloc (.cells #[.int .i64 a.k, .int .i64 a.n, .string a.s, .slice c a.l.length cp] 26)).alloc (.cells #[.int .i64 b.k, .int .i64 b.n, .string b.s, .slice e b.l.length ep] 26)).alloc (.cells #[.int .i64 0, .int .i64 0, .string ⟨#[]⟩, .slice none 0 0] 26) = W at *
  refine (unhide PA).mono ?_
  rintro r w1 ⟨c1, cp1, rfl, hx1, hb1⟩
  clear hx1
  have X1 := (unhide X0).later hb1
  have A1 := (unhide A0).later hb1
  have C1 := (unhide C0).later hb1
  have hb2 := below_new w1 (.cells #[.int .i64 x.k, .int .i64 x.n, .string x.s, .slice c1 x.l.length cp1] 26)
  have X2 := hide (X1.later hb2)
  have A2 := hide (A1.later hb2)
  have C2 := hide (C1.later hb2)
  have G2 := hide (show (w1.alloc (.cells #[.int .i64 x.k, .int .i64 x.n, .string x.s, .slice c1 x.l.length cp1] 26)).heap[w1.heap.size]? = some (.cells #[.int .i64 x.k, .int .i64 x.n, .string x.s, .slice c1 x.l.length cp1] 26 (0, 0)) from Array.getElem?_push_size)
  have PB2 := hide (unhide PB _ (unhide C2))
  clear hb1 hb2 X1 A1 C1 X0 A0 C0 PA PB
  go_wp2_with (refine wpList_load_row rfl 26 _ rfl (w.heap.size + 1) rfl 26 #[.int .i64 b.k, .int .i64 b.n, .string b.s, .slice e b.l.length ep] (0, 0) _ ((unhide X2).boxb) Tryd.underlying26 rfl (by kernel_rfl) ?_)
  generalize w1.alloc (.cells #[.int .i64 x.k, .int .i64 x.n, .string x.s, .slice c1 x.l.length cp1] 26) = w2 at *
  generalize w1.heap.size = g1' at *
  refine (unhide PB2).mono ?_
  rintro r w3 ⟨c3, cp3, rfl, hx3, hb3⟩
  clear hx3
  have X3 := (unhide X2).later hb3
  have A3 := (unhide A2).later hb3
  have C3 := (unhide C2).later hb3
  have G3 := row_keep (unhide G2) hb3
  have hb4 := below_new w3 (.cells #[.int .i64 y.k, .int .i64 y.n, .string y.s, .slice c3 y.l.length cp3] 26)
  have X4 := hide (X3.later hb4)
  have A4 := hide (A3.later hb4)
  have C4 := hide (C3.later hb4)
  have G4 := row_keep G3 hb4
  have K4 := (show (w3.alloc (.cells #[.int .i64 y.k, .int .i64 y.n, .string y.s, .slice c3 y.l.length cp3] 26)).heap[w3.heap.size]? = some (.cells #[.int .i64 y.k, .int .i64 y.n, .string y.s, .slice c3 y.l.length cp3] 26 (0, 0)) from Array.getElem?_push_size)
  have x0 := Lib.cell_of_heap G4 0
  have x1 := Lib.cell_of_heap G4 1
  have y0 := Lib.cell_of_heap K4 0
  have y1 := Lib.cell_of_heap K4 1
  clear hb3 hb4 X3 A3 C3 G3 X2 A2 C2 G2 PB2 G4 K4
  have hb5 := below_new (w3.alloc (.cells #[.int .i64 y.k, .int .i64 y.n, .string y.s, .slice c3 y.l.length cp3] 26)) (.cells #[.int .i64 a.k, .int .i64 a.n, .string a.s, .slice c a.l.length cp, .int .i64 b.k, .int .i64 b.n, .string b.s, .slice e b.l.length ep] 26)
  have X5 := hide ((unhide X4).later hb5)
  have hz5 : (w3.alloc (.cells #[.int .i64 y.k, .int .i64 y.n, .string y.s, .slice c3 y.l.length cp3] 26)).heap.size = w3.heap.size + 1 := by simp
  have N5' := (show PX ((w3.alloc (.cells #[.int .i64 y.k, .int .i64 y.n, .string y.s, .slice c3 y.l.length cp3] 26)).alloc (.cells #[.int .i64 a.k, .int .i64 a.n, .string a.s, .slice c a.l.length cp, .int .i64 b.k, .int .i64 b.n, .string b.s, .slice e b.l.length ep] 26)) (Oy w R) ⟨6, 0, ⟨#[]⟩, [a, b]⟩ (some ⟨(w3.alloc (.cells #[.int .i64 y.k, .int .i64 y.n, .string y.s, .slice c3 y.l.length cp3] 26)).heap.size, 0, none⟩) from (unhide A4).two (unhide C4) (unhide DJ) (unhide PR) (unhide QR) (oy_in (unhide HR) (unhide X4).lt) 6 0 ⟨#[]⟩ 26)
  rw [hz5] at N5'
  have N5 := hide N5'
  clear N5' hz5
  clear hb5
  go_wp2_with (first | (refine wpList_load_row rfl 26 _ rfl w.heap.size rfl 26 #[.int .i64 a.k, .int .i64 a.n, .string a.s, .slice c a.l.length cp] (0, 0) _ ((unhide X4).boxa) Tryd.underlying26 rfl (by kernel_rfl) ?_) | (refine wpList_load_row rfl 26 _ rfl (w.heap.size + 1) rfl 26 #[.int .i64 b.k, .int .i64 b.n, .string b.s, .slice e b.l.length ep] (0, 0) _ ((unhide X4).boxb) Tryd.underlying26 rfl (by kernel_rfl) ?_) | (refine wpList_store_row rfl 26 _ _ rfl (w.heap.size + 2) #[.int .i64 6, .int .i64 0, .string ⟨#[]⟩, .slice (some ⟨w3.heap.size + 1, 0, none⟩) 2 2] rfl rfl 26 _ (unhide X5).res szE rfl (ex_one _ _ _ _ _ _) ?_))
  refine bodyPost_ret (results_cell_row (P := Tryd.prog) rfl _ _ (w.heap.size + 2) 26 #[.int .i64 6, .int .i64 0, .string ⟨#[]⟩, .slice (some ⟨w3.heap.size + 1, 0, none⟩) 2 2] (0, 0) _ rfl (setRow_heap _ _ _ _ _ _ (unhide X5).res) Tryd.underlying26 rfl szE) rfl ?_
  rw [← unhide HX]
  exact By.end (x := ⟨6, 0, ⟨#[]⟩, [a, b]⟩) (unhide X5) (unhide N5) _
theorem subS_any {d : Nat} (a b : Ex) (oa : okF (d + 1) false a = true) (ob : okF (d + 1) false b = true) (c e : Option Addr) (cp ep : Nat) (P Q R : Nat → Prop) (w : World) (ha : PX w P a c) (hb : PX w Q b e) (hPQ : ∀ b, P b → ¬ Q b) (hPR : ∀ b, P b → R b) (hQR : ∀ b, Q b → R b) (hR : ∀ b, w.heap.size ≤ b → R b) : Calls Tryd.prog 79 #[.agg (a.cs c cp), .agg (b.cs e ep)] w (GiR (subX a b) R w) := by
  by_cases h1 : b.k = 1
  · exact subS_num a b oa ob c e cp ep P Q R w ha hb hPQ hPR hQR hR h1
  · cases f0 : ((prtX a).1.k == 11) with
    | false => exact subS_n0 a b oa ob c e cp ep P Q R w ha hb hPQ hPR hQR hR h1 f0
    | true =>
      cases f1 : ((prtX b).1.k == 11) with
      | false => exact subS_n1 a b oa ob c e cp ep P Q R w ha hb hPQ hPR hQR hR h1 f0 f1
      | true =>
        cases f2 : ((prtX a).1.n == (prtX b).1.n) with
        | false => exact subS_n2 a b oa ob c e cp ep P Q R w ha hb hPQ hPR hQR hR h1 f0 f1 f2
        | true => exact subS_sect a b oa ob c e cp ep P Q R w ha hb hPQ hPR hQR hR h1 f0 f1 f2
end Go.Proofs.YtkolflcjkofleaaDoor

namespace Go.Proofs.YtkolflcjkofleaaDoor
open Go.ChangeShapes Go.WideShapes Go.ChangeAt Go.RowKit
set_option linter.unusedVariables false
set_option maxRecDepth 8000
set_option linter.unusedSimpArgs false

/-- So many parts of a list are appended: the row is v, all blocks from B on and below M. -/
def ApX (w : World) (B : Nat) (l : List Ex) (k : Nat) (v : Value) (M : Nat) : Prop := ∃ (cs : List Value) (Fs : List (List Nat)), w.ownsRow B 26 4 v k cs ∧ (∀ g, v.ownBlock = some g → g < M) ∧ Fs.length = k ∧ Fs.flatten.Nodup ∧ (∀ b ∈ Fs.flatten, B ≤ b ∧ b < M ∧ v.ownBlock ≠ some b) ∧ ∀ i, i < k → OwIn w cs i (xAt l i) (Fs.getD i [])
theorem ownsRow_keepF {w w' : World} {B n m : Nat} {t : TypeId} {v : Value} {cs : List Value} (h : w.ownsRow B t m v n cs) (hk : ∀ g, v.ownBlock = some g → w'.heap[g]? = w.heap[g]?) : w'.ownsRow B t m v n cs := by
  obtain ⟨h1, h2 | ⟨g, cap, cur, rfl, hg, hh, r⟩⟩ := h
  · exact ⟨h1, .inl h2⟩
  · exact ⟨h1, .inr ⟨g, cap, cur, rfl, hg, (hk g rfl).trans hh, r⟩⟩
theorem ApX.keep {w w' : World} {B k M : Nat} {l : List Ex} {v : Value} (h : ApX w B l k v M) (hk : ∀ b, B ≤ b → b < M → w'.heap[b]? = w.heap[b]?) : ApX w' B l k v M := by
  obtain ⟨cs, Fs, h1, h2, h3, h4, h5, h6⟩ := h
  refine ⟨cs, Fs, ownsRow_keepF h1 (fun g hg => hk g (World.ownsRow.lt h1 g hg).1 (h2 g hg)), h2, h3, h4, h5, fun i hi => (h6 i hi).keep (fun b hb => ?_)⟩
  obtain ⟨q1, q2, _⟩ := h5 b (getD_flat hb)
  exact hk b q1 q2
theorem ApX.later {w w' : World} {B k M : Nat} {l : List Ex} {v : Value} (h : ApX w B l k v M) (hb : Below w.heap.size w w') (hM : M ≤ w.heap.size) : ApX w' B l k v M := h.keep (fun b _ h2 => hb.block b (by omega))
theorem ApX.far {w : World} {B k M : Nat} {l : List Ex} {v : Value} (h : ApX w B l k v M) (p : Addr) (u : Value) (hp : p.block < B) : ApX (w.setCell p u) B l k v M := h.keep (fun b h1 _ => heap_setCell_other w p b u (by omega))
theorem ApX.nil (w : World) (B : Nat) (l : List Ex) (M : Nat) : ApX w B l 0 (.slice none 0 0) M := ⟨[], [], World.ownsRow_nil _ _ _ _, (fun g h => by simp [Value.ownBlock] at h), rfl, List.nodup_nil, (fun b hb => by simp at hb), fun i hi => by omega⟩
theorem ApX.step {w w' : World} {B k M M' : Nat} {l : List Ex} {v : Value} {cs : List Value} {Fs : List (List Nat)} {q : Option Addr} {cp g cap : Nat} (h1 : w.ownsRow B 26 4 v k cs) (h2 : ∀ g, v.ownBlock = some g → g < M) (h3 : Fs.length = k) (h4 : Fs.flatten.Nodup) (h5 : ∀ b ∈ Fs.flatten, B ≤ b ∧ b < M ∧ v.ownBlock ≠ some b) (h6 : ∀ i, i < k → OwIn w cs i (xAt l i) (Fs.getD i []))
    (hx : HalfX w M M' (xAt l k) q) (hBM : B ≤ M) (hM : M ≤ M') (hM' : M' ≤ w.heap.size) (ho : w'.ownsRow B 26 4 (.slice (some ⟨g, 0, none⟩) (k + 1) cap) (k + 1) (cs ++ exL (xAt l k) q cp)) (hg : w.grownBy w' v.ownBlock) (hw : v.ownBlock = some g ∨ g = w.heap.size) : ApX w' B l (k + 1) (.slice (some ⟨g, 0, none⟩) (k + 1 : Nat) cap) w'.heap.size := by
  obtain ⟨F, x1, x2, x3⟩ := hx
  have hl := h1.1
  refine ⟨_, Fs ++ [F], ho, (fun g' e => by
    have := World.ownsRow.lt ho g' e
    exact this.2), by simp [h3], ?_, ?_, ?_⟩
  · rw [flat_snoc]
    exact nodup_snoc h4 x2 (fun b hb => (h5 b hb).2.1) (fun b hb => (x3 b hb).1)
  · intro b hb
    rw [flat_snoc] at hb
    have hs := hg.size
    rcases List.mem_append.1 hb with hb | hb
    · obtain ⟨q1, q2, q3⟩ := h5 b hb
      refine ⟨q1, by omega, fun e => ?_⟩
      have e : g = b := by simpa [Value.ownBlock] using e
      rcases hw with hw | hw
      · exact q3 (by rw [hw, e])
      · omega
    · obtain ⟨q1, q2⟩ := x3 b hb
      refine ⟨by omega, by omega, fun e => ?_⟩
      have e : g = b := by simpa [Value.ownBlock] using e
      rcases hw with hw | hw
      · have := h2 g hw
        omega
      · omega
  · intro i hi
    by_cases hik : i < k
    · rw [getD_snoc_lt (by omega)]
      obtain ⟨c0, c1, c2, c, cp', c3, c4⟩ := h6 i hik
      refine ⟨by rw [List.getElem?_append_left (by omega)]; exact c0, by rw [List.getElem?_append_left (by omega)]; exact c1, by rw [List.getElem?_append_left (by omega)]; exact c2, c, cp', by rw [List.getElem?_append_left (by omega)]; exact c3, ?_⟩
      refine OwX.keep _ _ _ (fun b hb => ?_) c4
      obtain ⟨q1, q2, q3⟩ := h5 b (getD_flat hb)
      exact hg.block b (by omega) (fun e => q3 e.symm)
    · obtain rfl : i = k := by omega
      rw [getD_snoc_eq (by omega)]
      have hj : ∀ j, j < 4 → (cs ++ exL (xAt l i) q cp)[i * 4 + j]? = (exL (xAt l i) q cp)[j]? := fun j hj => by
        rw [List.getElem?_append_right (by omega), hl]
        congr 1
        omega
      refine ⟨(hj 0 (by omega)).trans rfl, (hj 1 (by omega)).trans rfl, (hj 2 (by omega)).trans rfl, q, cp, (hj 3 (by omega)).trans rfl, ?_⟩
      refine OwX.keep _ _ _ (fun b hb => ?_) x1
      obtain ⟨q1, q2⟩ := x3 b hb
      exact hg.block b (by omega) (fun e => by have := h2 b e.symm; omega)
/-- All are appended. -/
theorem ApX.done {w : World} {B M n cap : Nat} {l : List Ex} {a : Option Addr} (h : ApX w B l l.length (.slice a n cap) M) (k m : Int) (s : ByteArray) : PX w (B ≤ ·) ⟨k, m, s, l⟩ a ∧ n = l.length := by
  obtain ⟨cs, Fs, h1, h2, h3, h4, h5, h6⟩ := h
  have h1' := h1
  obtain ⟨hl, ⟨e, h0⟩ | ⟨g, cap', cur, e, hg, hh, hn, hm, hz, ht⟩⟩ := h1
  · cases e
    have : l = [] := List.length_eq_zero_iff.1 h0
    subst this
    exact ⟨PX.leaf _ _ _ _ _ _, rfl⟩
  · cases e
    obtain ⟨cur, hh, hz, hg, hc⟩ := row_take h1'
    refine ⟨⟨g :: Fs.flatten, (OwX_eq _ _ _ _).2 (.inr ⟨g, cur, _, Fs, rfl, hh, hz, h3, rfl, fun i hi => ?_⟩), List.nodup_cons.2 ⟨fun hb => (h5 g hb).2.2 rfl, h4⟩, fun b hb => ?_⟩, rfl⟩
    · obtain ⟨c0, c1, c2, c, cp', c3, c4⟩ := h6 i hi
      have hi : i < l.length := hi
      exact ⟨(hc _ (by omega)).trans c0, (hc _ (by omega)).trans c1, (hc _ (by omega)).trans c2, c, cp', (hc _ (by omega)).trans c3, c4⟩
    · rcases List.mem_cons.1 hb with rfl | hb
      · exact hg
      · exact (h5 b hb).1
end Go.Proofs.YtkolflcjkofleaaDoor

namespace Go.Proofs.YtkolflcjkofleaaDoor
open Go.ChangeShapes Go.WideShapes Go.ChangeAt Go.RowKit
set_option linter.unusedVariables false
set_option maxRecDepth 8000
set_option linter.unusedSimpArgs false

theorem cell_newF (W : World) (cs : Array Value) (t : TypeId) : ∀ j u, cs.toList[j]? = some u → (W.alloc (.cells cs t)).cell? ((⟨W.heap.size, 0, none⟩ : Addr).add j) = some u := by
  intro j u hu
  have h : (W.alloc (.cells cs t)).cell? ⟨W.heap.size, j, none⟩ = some u := by rw [World.cell?_alloc_at _ _ _ _ rfl]; simpa using hu
  unfold Addr.add
  by_cases h0 : j = 0
  · subst h0; simpa using h
  · simpa [h0] using h
/-- The rows of a function that fills a term: the argument, what is answered, the term. -/
structure Cz (w wr : World) (pr : Array Value) (k n : Int) (s : ByteArray) (v : Value) : Prop where
  bel : Below w.heap.size w wr
  lt : w.heap.size + 3 ≤ wr.heap.size
  box : wr.heap[w.heap.size]? = some (.cells pr 26 (0, 0))
  res : wr.heap[w.heap.size + 1]? = some (.cells #[.int .i64 0, .int .i64 0, .string ⟨#[]⟩, .slice none 0 0] 26 (0, 0))
  out : wr.heap[w.heap.size + 2]? = some (.cells #[.int .i64 k, .int .i64 n, .string s, v] 26 (0, 0))
section
variable {w wr w' : World} {pr : Array Value} {k n : Int} {s : ByteArray} {v : Value}
theorem Cz.later (h : Cz w wr pr k n s v) (hb : Below wr.heap.size wr w') : Cz w w' pr k n s v := ⟨h.bel.trans (hb.mono h.bel.size), Nat.le_trans h.lt hb.size, row_keep h.box hb, row_keep h.res hb, row_keep h.out hb⟩
theorem Cz.grown {o : Option Nat} (h : Cz w wr pr k n s v) (hg : wr.grownBy w' o) (ho : ∀ g, o = some g → w.heap.size + 3 ≤ g) : Cz w w' pr k n s v := by
  have ne : ∀ b, b < w.heap.size + 3 → some b ≠ o := fun b hb e => by have := ho b e.symm; omega
  exact ⟨h.bel.grown hg h.bel.size (fun q e => by have := ho q e; omega), Nat.le_trans h.lt hg.size, (hg.block _ (Array.getElem?_eq_some_iff.1 h.box).1 (ne _ (by omega))).trans h.box, (hg.block _ (Array.getElem?_eq_some_iff.1 h.res).1 (ne _ (by omega))).trans h.res, (hg.block _ (Array.getElem?_eq_some_iff.1 h.out).1 (ne _ (by omega))).trans h.out⟩
theorem Cz.set3 (h : Cz w wr pr k n s v) (x : Value) : Cz w (wr.setCell ⟨w.heap.size + 2, 3, none⟩ x) pr k n s x := by
  have ne : ∀ b, b < w.heap.size + 2 → (wr.setCell ⟨w.heap.size + 2, 3, none⟩ x).heap[b]? = wr.heap[b]? := fun b hb => heap_setCell_other wr ⟨w.heap.size + 2, 3, none⟩ b _ (fun e => by have e' : b = w.heap.size + 2 := e; omega)
  refine ⟨h.bel.setCell (p := ⟨w.heap.size + 2, 3, none⟩) (by show w.heap.size ≤ w.heap.size + 2; omega) _, by simp; exact h.lt, (ne _ (by omega)).trans h.box, (ne _ (by omega)).trans h.res, ?_⟩
  rw [heap_setCell_same wr (w.heap.size + 2) 3 _ 26 x h.out]
  rfl
theorem Cz.new (w : World) (pr : Array Value) : Cz w (((w.alloc (.cells pr 26)).alloc (.cells #[.int .i64 0, .int .i64 0, .string ⟨#[]⟩, .slice none 0 0] 26)).alloc (.cells #[.int .i64 k, .int .i64 n, .string s, v] 26)) pr k n s v := by
  have hb := (((Below.refl w.heap.size w).alloc (Nat.le_refl _) (.cells pr 26)).alloc (by simp) (.cells #[.int .i64 0, .int .i64 0, .string ⟨#[]⟩, .slice none 0 0] 26)).alloc (by simp; omega) (.cells #[.int .i64 k, .int .i64 n, .string s, v] 26)
  have h1 : (w.alloc (.cells pr 26)).heap.size = w.heap.size + 1 := by simp
  have h2 : ((w.alloc (.cells pr 26)).alloc (.cells #[.int .i64 0, .int .i64 0, .string ⟨#[]⟩, .slice none 0 0] 26)).heap.size = w.heap.size + 2 := by simp
  refine ⟨hb, by simp, ?_, ?_, ?_⟩
  · exact row_keep (row_keep (heap_alloc_new w _) (below_new _ _)) (below_new _ _)
  · refine row_keep ?_ (below_new _ _)
    rw [← h1]; exact Array.getElem?_push_size
  · rw [← h2]; exact Array.getElem?_push_size
end
theorem copy_fin {e : Ex} {w w' : World} {a : Option Addr} {n cp M : Nat} {pr : Array Value} (row : Array Value) (hc : Cz w w' pr e.k e.n e.s (.slice a n cp)) (h : ApX w' (w.heap.size + 3) e.l e.l.length (.slice a n cp) M) : GiR e (w.heap.size ≤ ·) w (.returned (.agg #[.int .i64 e.k, .int .i64 e.n, .string e.s, .slice a n cp])) (w'.setRow (w.heap.size + 1) row) := by
  obtain ⟨k, m, s, l⟩ := e
  obtain ⟨hd, rfl⟩ := h.done k m s
  exact ⟨a, cp, rfl, (PX.row (g := w.heap.size + 1) hd row (by show ¬ (w.heap.size + 3 ≤ w.heap.size + 1); omega)).mono (Q := fun x => w.heap.size ≤ x) (fun b (hb : w.heap.size + 3 ≤ b) => by show w.heap.size ≤ b; omega), hc.bel.grown (grownBy_row _) hc.bel.size (fun k e => by cases e; omega)⟩
def CoP (e : Ex) : Prop := ∀ (b : Option Addr) (cap : Nat) (w : World), RdX w 0 e b → e.sz ≤ 1048576 → Calls Tryd.prog 52 #[.agg (e.cs b cap)] w (GiR e (w.heap.size ≤ ·) w)
set_option maxHeartbeats 8000000 in
theorem copyS_of (e : Ex) (ih : ∀ i, i < e.l.length → CoP (xAt e.l i)) : CoP e := by
  intro b cap w hr hz
  have hsz := sz_is e
  rw [RdX_eq] at hr
  have hp : ∀ i, i < e.l.length → (xAt e.l i).sz ≤ 1048576 := fun i hi => by have := sz_part hi; omega
  have hm : e.l.length ≤ 1048576 := by omega
  have FN := hide (fun (w' : World) (a : Option Addr) (n cp : Nat) (pr : Array Value) (row : Array Value) (M : Nat) => copy_fin (e := e) (w := w) (w' := w') (a := a) (n := n) (cp := cp) (pr := pr) (M := M) row)
  clear hsz hz
  unfold Ex.cs
  generalize GiR e (w.heap.size ≤ ·) w = X at *
  generalize e.k = ek at *
  generalize e.n = en at *
  generalize e.s = es at *
  generalize e.l = l at *
  obtain ⟨len, hl⟩ : ∃ len, l.length = len := ⟨_, rfl⟩
  rw [hl] at hm ih hr hp FN ⊢
  obtain ⟨i0, hi, hz0, hz1, hz2⟩ := info_parts infoX
  have C0 := hide (Cz.new (k := ek) (n := en) (s := es) (v := .slice none 0 0) w #[.int .i64 ek, .int .i64 en, .string es, .slice b len cap])
  go_enter Tryd.func52, Tryd.ntmps52
  go_wp2
  generalize ((w.alloc (.cells #[.int .i64 ek, .int .i64 en, .string es, .slice b len cap] 26)).alloc (.cells #[.int .i64 0, .int .i64 0, .string ⟨#[]⟩, .slice none 0 0] 26)).alloc (.cells #[.int .i64 ek, .int .i64 en, .string es, .slice none 0 0] 26) = W at *
  go_loopw [4] (fun i wr => ∃ (k : Nat) (v : Value), k ≤ len ∧ i = .int .i64 k ∧ Cz w wr #[.int .i64 ek, .int .i64 en, .string es, .slice b len cap] ek en es v ∧ ApX wr (w.heap.size + 3) l k v wr.heap.size) (fun i _ => len - (intOf i).toNat)
  case atStart => exact ⟨0, _, Nat.zero_le _, rfl, unhide C0, ApX.nil _ _ _ _⟩
  case round =>
    clear C0
    obtain ⟨k, v, hk, rfl, hcz, hap⟩ := hrel
    have B1 := hcz.bel
    by_cases hlt : k < len
    · rcases hr with h0 | ⟨p, off, rfl, _, hbl, hc⟩
      · rw [h0] at hl; simp at hl; omega
      obtain ⟨c0, c1, c2, c, cap', c3, c4⟩ := hc k (by omega)
      have d0 : wr.cell? ⟨p, off + k * 4, none⟩ = _ := (B1.cell (p := ⟨p, _, none⟩) hbl).trans c0
      have d1 : wr.cell? ⟨p, off + k * 4 + 1, none⟩ = _ := (B1.cell (p := ⟨p, _, none⟩) hbl).trans c1
      have d2 : wr.cell? ⟨p, off + k * 4 + 2, none⟩ = _ := (B1.cell (p := ⟨p, _, none⟩) hbl).trans c2
      have d3 : wr.cell? ⟨p, off + k * 4 + 3, none⟩ = _ := (B1.cell (p := ⟨p, _, none⟩) hbl).trans c3
      have b3 := Lib.cell_of_heap hcz.box 3
      have HT := hide (ih k hlt c cap' wr (c4.later B1) (hp k hlt))
      unfold GiR Ex.cs at HT
      have CZ := hide hcz
      have AP := hide hap
      have AS := hide (fun (w1 w2 : World) (g cp M' : Nat) (q : Option Addr) (cq : Nat) cs Fs h1 h2 h3 h4 h5 h6 hx hBM hM hM' ho hg hw => ApX.step (w := w1) (w' := w2) (B := w.heap.size + 3) (k := k) (M := wr.heap.size) (M' := M') (l := l) (v := v) (cs := cs) (Fs := Fs) (q := q) (cp := cq) (g := g) (cap := cp) h1 h2 h3 h4 h5 h6 hx hBM hM hM' ho hg hw)
      clear c0 c1 c2 c3 c4 hc hcz hap B1
      unfold exL at AS
      generalize (xAt l k).s = ss at d2 HT AS
      generalize (xAt l k).k = kk at d0 HT AS
      generalize (xAt l k).n = nn at d1 HT AS
      generalize (xAt l k).l.length = ll at d3 HT AS
      go_wp2_with fail
      refine (unhide HT).mono ?_
      rintro e w1 ⟨q, cq, rfl, hq, hb1⟩
      have hb2 := below_new w1 (.cells #[.int .i64 kk, .int .i64 nn, .string ss, .slice q ll cq] 26)
      have hb3 := below_new (w1.alloc (.cells #[.int .i64 kk, .int .i64 nn, .string ss, .slice q ll cq] 26)) (.cells #[.int .i64 kk, .int .i64 nn, .string ss, .slice q ll cq] 26)
      have hb12 := hb1.trans (hb2.mono hb1.size)
      have hb13 := hb12.trans (hb3.mono hb12.size)
      have hb23 := hb2.trans (hb3.mono hb2.size)
      have hz2' : (w1.alloc (.cells #[.int .i64 kk, .int .i64 nn, .string ss, .slice q ll cq] 26)).heap.size = w1.heap.size + 1 := by simp
      have hz3' : ((w1.alloc (.cells #[.int .i64 kk, .int .i64 nn, .string ss, .slice q ll cq] 26)).alloc (.cells #[.int .i64 kk, .int .i64 nn, .string ss, .slice q ll cq] 26)).heap.size = w1.heap.size + 2 := by simp
      have C2 := (unhide CZ).later hb12
      have C3 := hide ((unhide CZ).later hb13)
      have G2 := hide (show (w1.alloc (.cells #[.int .i64 kk, .int .i64 nn, .string ss, .slice q ll cq] 26)).heap[w1.heap.size]? = some (.cells #[.int .i64 kk, .int .i64 nn, .string ss, .slice q ll cq] 26 (0, 0)) from Array.getElem?_push_size)
      have o3 := Lib.cell_of_heap C2.out 3
      have A3 := hide ((unhide AP).later hb13 (Nat.le_refl _))
      have CN' := cell_newF (w1.alloc (.cells #[.int .i64 kk, .int .i64 nn, .string ss, .slice q ll cq] 26)) #[.int .i64 kk, .int .i64 nn, .string ss, .slice q ll cq] 26
      rw [hz2'] at CN'
      have CN := hide CN'
      have HX := hide ((show NewX w1 wr.heap.size (xAt l k) q from hq).half.later hb23)
      have SZ := hide hz3'
      have S1 := hide hb1.size
      clear hq hb1 hb2 hb3 hb12 hb13 hb23 hz2' hz3' CN' C2 HT
      obtain ⟨cs, Fs, a1, a2, a3, a4, a5, a6⟩ := unhide A3
      have OW := hide a1
      have SP := hide (fun w2 g cp => unhide AS ((w1.alloc (.cells #[.int .i64 kk, .int .i64 nn, .string ss, .slice q ll cq] 26)).alloc (.cells #[.int .i64 kk, .int .i64 nn, .string ss, .slice q ll cq] 26)) w2 g cp w1.heap.size q cq cs Fs a1 a2 a3 a4 a5 a6 (unhide HX) (by have := (unhide CZ).lt; omega) (unhide S1) (by have := unhide SZ; omega))
      have BA := hide (show w.heap.size + 3 ≤ ((w1.alloc (.cells #[.int .i64 kk, .int .i64 nn, .string ss, .slice q ll cq] 26)).alloc (.cells #[.int .i64 kk, .int .i64 nn, .string ss, .slice q ll cq] 26)).heap.size from (unhide C3).lt)
      have WB := hide (show ∀ g, v.ownBlock = some g → w.heap.size + 3 ≤ g from fun g hg => (World.ownsRow.lt a1 g hg).1)
      have ON := hide (show ∀ u ∈ ([.int .i64 kk, .int .i64 nn, .string ss, .slice q ll cq] : List Value), u.oneCell' = true by intro u hu; simp only [List.mem_cons, List.not_mem_nil, or_false] at hu; rcases hu with rfl | rfl | rfl | rfl <;> rfl)
      clear a1 a2 a3 a4 a5 a6 A3 AS HX
      go_wp2_with (first | (refine wpList_load_row rfl 26 _ rfl w1.heap.size rfl 26 #[.int .i64 kk, .int .i64 nn, .string ss, .slice q ll cq] (0, 0) _ (unhide G2) Tryd.underlying26 rfl (by kernel_rfl) ?_) | (at_builtin; go_must (refine wpList_append_to rfl (.tmp 27) (.tmp 29) 24 rfl (w.heap.size + 3) 26 i0 (.agg #[.int .i64 0, .int .i64 0, .string ⟨#[]⟩, .slice none 0 0]) 4 56 Tryd.underlying24 hi hz0 hz1 hz2 rfl (by decide) v k cs rfl (unhide OW) ⟨w1.heap.size + 1, 0, none⟩ 1 1 [.int .i64 kk, .int .i64 nn, .string ss, .slice q ll cq] rfl rfl (unhide CN) (unhide ON) (by unfold maxLen; omega) (by omega) (unhide BA) (by omega) ?_; intro g4 cap4 w4 hown4 hgrow4 hwh4; have A4 := hide (unhide SP w4 g4 cap4 hown4 hgrow4 hwh4); have C4 := (unhide C3).grown hgrow4 (unhide WB); have f4 : w4.frozen? ⟨w.heap.size + 2, 3, none⟩ = false := (by simp [World.frozen?, C4.out]); have o4 := Lib.cell_of_heap C4.out 3; have C5 := hide (C4.set3 (.slice (some ⟨g4, 0, none⟩) (k + 1 : Nat) cap4)); clear hown4 hgrow4 hwh4 C4)))
      go_roundw
      case rel => exact ⟨k + 1, _, by omega, by go_num, unhide C5, by
        rw [show (w4.setCell ⟨w.heap.size + 2, 3, none⟩ (.slice (some ⟨g4, 0, none⟩) (k + 1 : Nat) cap4)).heap.size = w4.heap.size by simp]
        exact (unhide A4).far ⟨w.heap.size + 2, 3, none⟩ _ (by show w.heap.size + 2 < w.heap.size + 3; omega)⟩
      case measure => simp [intOf]; omega
    · obtain rfl : k = len := by omega
      have b3 := Lib.cell_of_heap hcz.box 3
      obtain ⟨a5, n5, c5, rfl⟩ : ∃ a n c, v = .slice a n c := by
        obtain ⟨_, _, ⟨_, ⟨e, _⟩ | ⟨g, cap', cur, e, _⟩⟩, _⟩ := hap
        · exact ⟨_, _, _, e⟩
        · exact ⟨_, _, _, e⟩
      have CZ := hide hcz
      have AP := hide hap
      clear hcz hap
      go_wp2_with (first | (refine wpList_load_row rfl 26 _ rfl (w.heap.size + 2) rfl 26 #[.int .i64 ek, .int .i64 en, .string es, .slice a5 n5 c5] (0, 0) _ ((unhide CZ).out) Tryd.underlying26 rfl (by kernel_rfl) ?_) | (refine wpList_store_row rfl 26 _ _ rfl (w.heap.size + 1) #[.int .i64 ek, .int .i64 en, .string es, .slice a5 n5 c5] rfl rfl 26 _ (unhide CZ).res szE rfl (ex_one _ _ _ _ _ _) ?_))
      refine bodyPost_ret (results_cell_row (P := Tryd.prog) rfl _ _ (w.heap.size + 1) 26 #[.int .i64 ek, .int .i64 en, .string es, .slice a5 n5 c5] (0, 0) _ rfl (setRow_heap _ _ _ _ _ _ (unhide CZ).res) Tryd.underlying26 rfl szE) rfl ?_
      exact unhide FN _ _ _ _ _ _ _ (unhide CZ) (unhide AP)
theorem copyS_any (e : Ex) : CoP e := by
  induction e using Ex.ind with
  | h k n s l ih => exact copyS_of _ (fun i hi => ih _ (xAt_mem hi))
end Go.Proofs.YtkolflcjkofleaaDoor

namespace Go.Proofs.YtkolflcjkofleaaDoor
open Go.ChangeShapes Go.WideShapes Go.ChangeAt Go.RowKit
set_option linter.unusedVariables false
set_option maxRecDepth 8000
set_option linter.unusedSimpArgs false

def Up (w : World) (b : Nat) : Prop := w.heap.size ≤ b
def FoR (e : Ex) : Prop := ∀ (b : Option Addr) (cap : Nat) (w : World), RdX w 0 e b → Calls Tryd.prog 53 #[.agg (e.cs b cap)] w (GiR (foldX e) (Up w) w)
theorem up_ow {w : World} {b : Nat} (h : w.heap.size + 2 ≤ b) : Ow w (Up w) b := ⟨Nat.le_trans (Nat.le_add_right _ _) h, .inr h⟩
set_option maxHeartbeats 4000000 in
theorem foldS_leaf (k n : Int) (s : ByteArray) (hs : s.size ≤ 1048576) : FoR ⟨k, n, s, []⟩ := by
  intro b cap w hr
  rw [fold_leaf]
  have X0 := hide (Bx.new w #[.int .i64 k, .int .i64 n, .string s, .slice b 0 cap])
  have CP := hide (copyS_any ⟨k, n, s, []⟩ b cap _ (hr.later (unhide X0).bel) (by rw [sz_leaf]; exact hs))
  generalize hX : GiR ⟨k, n, s, []⟩ (Up w) w = X
  have HX := hide hX
  unfold GiR Ex.cs at CP
  show Calls Tryd.prog 53 #[.agg #[.int .i64 k, .int .i64 n, .string s, .slice b 0 cap]] w X
  clear hX hr
  go_enter Tryd.func53, Tryd.ntmps53
  go_wp2_with fail
  generalize (w.alloc (.cells #[.int .i64 k, .int .i64 n, .string s, .slice b 0 cap] 26)).alloc (.cells #[.int .i64 0, .int .i64 0, .string ⟨#[]⟩, .slice none 0 0] 26) = W at *
  refine (unhide CP).mono ?_
  rintro r w1 ⟨c, cp, rfl, hx, hb1⟩
  have X1 := hide ((unhide X0).later hb1)
  have A1 := hide (PX.leaf w1 (Ow w (Up w)) k n s c)
  clear hx hb1 X0 CP
  go_wp2_with (refine wpList_store_row rfl 26 _ _ rfl (w.heap.size + 1) #[.int .i64 k, .int .i64 n, .string s, .slice c 0 cp] rfl rfl 26 _ ((unhide X1).res) szE rfl (ex_one _ _ _ _ _ _) ?_)
  refine bodyPost_ret (results_cell_row (P := Tryd.prog) rfl _ _ (w.heap.size + 1) 26 #[.int .i64 k, .int .i64 n, .string s, .slice c 0 cp] (0, 0) _ rfl (setRow_heap _ _ _ _ _ _ ((unhide X1).res)) Tryd.underlying26 rfl szE) rfl ?_
  rw [← unhide HX]
  exact Bx.end (x := ⟨k, n, s, []⟩) (unhide X1) (unhide A1) _
theorem RdX.at {w : World} {e : Ex} {a : Option Addr} (h : RdX w 0 e a) (hl : e.l ≠ []) : ∃ p off, a = some ⟨p, off, none⟩ ∧ p < w.heap.size ∧ ∀ i, i < e.l.length → OneX w 0 p (off + i * 4) (xAt e.l i) := by
  rcases (RdX_eq _ _ _ _).1 h with h0 | ⟨p, off, ha, _, hp, hc⟩
  · exact absurd h0 hl
  · exact ⟨p, off, ha, hp, hc⟩
set_option maxHeartbeats 4000000 in
theorem foldS_neg1 (a : Ex) (ih : FoR a) (hk : ((foldX a).k == 1) = true) (hn : 0 ≤ (foldX a).n ∧ (foldX a).n ≤ 65535 ∨ (foldX a).k ≠ 1) : FoR ⟨4, 0, ⟨#[]⟩, [a]⟩ := by
  intro b cap w hr
  rw [fold_neg]
  obtain ⟨p, off, rfl, hpl, hc⟩ := hr.at (by simp)
  obtain ⟨c0, c1, c2, q0, qp0, c3, r0⟩ := hc 0 (by simp)
  have X0 := hide (Bx.new w #[.int .i64 4, .int .i64 0, .string ⟨#[]⟩, .slice (some ⟨p, off, none⟩) 1 cap])
  have IH := hide (ih q0 qp0 _ (RdX.later r0 (unhide X0).bel))
  have d0 := ((unhide X0).bel.cell (p := ⟨p, off + 0 * 4, none⟩) hpl).trans c0
  have d1 := ((unhide X0).bel.cell (p := ⟨p, off + 0 * 4 + 1, none⟩) hpl).trans c1
  have d2 := ((unhide X0).bel.cell (p := ⟨p, off + 0 * 4 + 2, none⟩) hpl).trans c2
  have d3 := ((unhide X0).bel.cell (p := ⟨p, off + 0 * 4 + 3, none⟩) hpl).trans c3
  simp only [Nat.zero_mul, Nat.add_zero] at d0 d1 d2 d3
  have EQ := hide (show negX (foldX a) = numX (-(foldX a).n) by unfold negX; rw [if_pos (beq_iff_eq.1 hk)])
  rw [unhide EQ]
  have xa : xAt (Ex.mk 4 0 ⟨#[]⟩ [a]).l 0 = a := rfl
  rw [xa] at d0 d1 d2 d3
  have hn2 : 0 ≤ (foldX a).n ∧ (foldX a).n ≤ 65535 := hn.resolve_right (fun h => h (beq_iff_eq.1 hk))
  generalize hX : GiR _ (Up w) w = X
  have HX := hide hX
  unfold GiR Ex.cs at IH
  show Calls Tryd.prog 53 #[.agg #[.int .i64 4, .int .i64 0, .string ⟨#[]⟩, .slice (some ⟨p, off, none⟩) 1 cap]] w X
  generalize foldX a = x at *
  clear hX hr hc c0 c1 c2 c3 r0 ih EQ hn xa
  go_enter Tryd.func53, Tryd.ntmps53
  go_wp2_with fail
  generalize (w.alloc (.cells #[.int .i64 4, .int .i64 0, .string ⟨#[]⟩, .slice (some ⟨p, off, none⟩) 1 cap] 26)).alloc (.cells #[.int .i64 0, .int .i64 0, .string ⟨#[]⟩, .slice none 0 0] 26) = W at *
  clear d0 d1 d2 d3
  refine (unhide IH).mono ?_
  rintro r w1 ⟨ca, cpa, rfl, hx, hb1⟩
  have hb2 := below_new w1 (.cells #[.int .i64 x.k, .int .i64 x.n, .string x.s, .slice ca x.l.length cpa] 26)
  have hb12 := hb1.trans (hb2.mono hb1.size)
  have X2 := hide ((unhide X0).later hb12)
  have hzW := (unhide X0).lt
  have A1 := (show PX w1 (Ow w (Up w)) x ca from hx.mono (fun b (h : W.heap.size ≤ b) => up_ow (Nat.le_trans hzW h)))
  have A2 := hide (A1.later hb2)
  have G2 := hide (show (w1.alloc (.cells #[.int .i64 x.k, .int .i64 x.n, .string x.s, .slice ca x.l.length cpa] 26)).heap[w1.heap.size]? = some (.cells #[.int .i64 x.k, .int .i64 x.n, .string x.s, .slice ca x.l.length cpa] 26 (0, 0)) from Array.getElem?_push_size)
  have y0 := Lib.cell_of_heap (unhide G2) 0
  have y1 := Lib.cell_of_heap (unhide G2) 1
  have z0 := Lib.cell_of_heap (unhide X2).box 0
  clear hx hb1 hb2 hb12 A1 X0 IH
  go_wp2_with fail
  generalize w1.alloc (.cells #[.int .i64 x.k, .int .i64 x.n, .string x.s, .slice ca x.l.length cpa] 26) = w2 at *
  clear y0 y1 z0
  refine (numD (-x.n) w2).mono ?_
  rintro r w3 ⟨rfl, hb3⟩
  have X3 := hide ((unhide X2).later hb3)
  have A3 := hide (PX.leaf w3 (Ow w (Up w)) 1 (-x.n % 65536) (⟨#[]⟩ : ByteArray) none)
  clear hb3 X2 A2 G2
  go_wp2_with (refine wpList_store_row rfl 26 _ _ rfl (w.heap.size + 1) #[.int .i64 1, .int .i64 (-x.n % 65536), .string ⟨#[]⟩, .slice none 0 0] rfl rfl 26 _ ((unhide X3).res) szE rfl (ex_one _ _ _ _ _ _) ?_)
  refine bodyPost_ret (results_cell_row (P := Tryd.prog) rfl _ _ (w.heap.size + 1) 26 #[.int .i64 1, .int .i64 (-x.n % 65536), .string ⟨#[]⟩, .slice none 0 0] (0, 0) _ rfl (setRow_heap _ _ _ _ _ _ ((unhide X3).res)) Tryd.underlying26 rfl szE) rfl ?_
  rw [← unhide HX]
  exact Bx.end (x := numX (-x.n)) (unhide X3) (unhide A3) _
set_option maxHeartbeats 4000000 in
theorem foldS_neg0 (a : Ex) (ih : FoR a) (hk : ((foldX a).k == 1) = false) (hn : 0 ≤ (foldX a).n ∧ (foldX a).n ≤ 65535 ∨ (foldX a).k ≠ 1) : FoR ⟨4, 0, ⟨#[]⟩, [a]⟩ := by
  intro b cap w hr
  rw [fold_neg]
  obtain ⟨p, off, rfl, hpl, hc⟩ := hr.at (by simp)
  obtain ⟨c0, c1, c2, q0, qp0, c3, r0⟩ := hc 0 (by simp)
  have X0 := hide (Bx.new w #[.int .i64 4, .int .i64 0, .string ⟨#[]⟩, .slice (some ⟨p, off, none⟩) 1 cap])
  have IH := hide (ih q0 qp0 _ (RdX.later r0 (unhide X0).bel))
  have d0 := ((unhide X0).bel.cell (p := ⟨p, off + 0 * 4, none⟩) hpl).trans c0
  have d1 := ((unhide X0).bel.cell (p := ⟨p, off + 0 * 4 + 1, none⟩) hpl).trans c1
  have d2 := ((unhide X0).bel.cell (p := ⟨p, off + 0 * 4 + 2, none⟩) hpl).trans c2
  have d3 := ((unhide X0).bel.cell (p := ⟨p, off + 0 * 4 + 3, none⟩) hpl).trans c3
  simp only [Nat.zero_mul, Nat.add_zero] at d0 d1 d2 d3
  have EQ := hide (show negX (foldX a) = ⟨4, 0, ⟨#[]⟩, [foldX a]⟩ by unfold negX; rw [if_neg (beq_eq_false_iff_ne.1 hk)]; rfl)
  rw [unhide EQ]
  have xa : xAt (Ex.mk 4 0 ⟨#[]⟩ [a]).l 0 = a := rfl
  rw [xa] at d0 d1 d2 d3
  have hn2 : True := trivial
  generalize hX : GiR _ (Up w) w = X
  have HX := hide hX
  unfold GiR Ex.cs at IH
  show Calls Tryd.prog 53 #[.agg #[.int .i64 4, .int .i64 0, .string ⟨#[]⟩, .slice (some ⟨p, off, none⟩) 1 cap]] w X
  generalize foldX a = x at *
  clear hX hr hc c0 c1 c2 c3 r0 ih EQ hn xa
  go_enter Tryd.func53, Tryd.ntmps53
  go_wp2_with fail
  generalize (w.alloc (.cells #[.int .i64 4, .int .i64 0, .string ⟨#[]⟩, .slice (some ⟨p, off, none⟩) 1 cap] 26)).alloc (.cells #[.int .i64 0, .int .i64 0, .string ⟨#[]⟩, .slice none 0 0] 26) = W at *
  clear d0 d1 d2 d3
  refine (unhide IH).mono ?_
  rintro r w1 ⟨ca, cpa, rfl, hx, hb1⟩
  have hb2 := below_new w1 (.cells #[.int .i64 x.k, .int .i64 x.n, .string x.s, .slice ca x.l.length cpa] 26)
  have hb12 := hb1.trans (hb2.mono hb1.size)
  have X2 := hide ((unhide X0).later hb12)
  have hzW := (unhide X0).lt
  have A1 := (show PX w1 (Ow w (Up w)) x ca from hx.mono (fun b (h : W.heap.size ≤ b) => up_ow (Nat.le_trans hzW h)))
  have A2 := hide (A1.later hb2)
  have G2 := hide (show (w1.alloc (.cells #[.int .i64 x.k, .int .i64 x.n, .string x.s, .slice ca x.l.length cpa] 26)).heap[w1.heap.size]? = some (.cells #[.int .i64 x.k, .int .i64 x.n, .string x.s, .slice ca x.l.length cpa] 26 (0, 0)) from Array.getElem?_push_size)
  have y0 := Lib.cell_of_heap (unhide G2) 0
  have y1 := Lib.cell_of_heap (unhide G2) 1
  have z0 := Lib.cell_of_heap (unhide X2).box 0
  clear hx hb1 hb2 hb12 A1 X0 IH
  have hb3 := below_new (w1.alloc (.cells #[.int .i64 x.k, .int .i64 x.n, .string x.s, .slice ca x.l.length cpa] 26)) (.cells #[.int .i64 x.k, .int .i64 x.n, .string x.s, .slice ca x.l.length cpa] 26)
  have X3 := hide ((unhide X2).later hb3)
  have hz3 : (w1.alloc (.cells #[.int .i64 x.k, .int .i64 x.n, .string x.s, .slice ca x.l.length cpa] 26)).heap.size = w1.heap.size + 1 := by simp
  have A3' := (show PX ((w1.alloc (.cells #[.int .i64 x.k, .int .i64 x.n, .string x.s, .slice ca x.l.length cpa] 26)).alloc (.cells #[.int .i64 x.k, .int .i64 x.n, .string x.s, .slice ca x.l.length cpa] 26)) (Ow w (Up w)) ⟨4, 0, ⟨#[]⟩, [x]⟩ (some ⟨(w1.alloc (.cells #[.int .i64 x.k, .int .i64 x.n, .string x.s, .slice ca x.l.length cpa] 26)).heap.size, 0, none⟩) from (unhide A2).one (up_ow (unhide X2).lt) 4 0 ⟨#[]⟩ 26)
  rw [hz3] at A3'
  have A3 := hide A3'
  clear hb3 hz3 A3'
  go_wp2_with (first | (refine wpList_load_row rfl 26 _ rfl w1.heap.size rfl 26 #[.int .i64 x.k, .int .i64 x.n, .string x.s, .slice ca x.l.length cpa] (0, 0) _ (unhide G2) Tryd.underlying26 rfl (by kernel_rfl) ?_) | (refine wpList_store_row rfl 26 _ _ rfl (w.heap.size + 1) #[.int .i64 4, .int .i64 0, .string ⟨#[]⟩, .slice (some ⟨w1.heap.size + 1, 0, none⟩) 1 1] rfl rfl 26 _ ((unhide X3).res) szE rfl (ex_one _ _ _ _ _ _) ?_))
  refine bodyPost_ret (results_cell_row (P := Tryd.prog) rfl _ _ (w.heap.size + 1) 26 #[.int .i64 4, .int .i64 0, .string ⟨#[]⟩, .slice (some ⟨w1.heap.size + 1, 0, none⟩) 1 1] (0, 0) _ rfl (setRow_heap _ _ _ _ _ _ ((unhide X3).res)) Tryd.underlying26 rfl szE) rfl ?_
  rw [← unhide HX]
  exact Bx.end (x := ⟨4, 0, ⟨#[]⟩, [x]⟩) (unhide X3) (unhide A3) _
end Go.Proofs.YtkolflcjkofleaaDoor
