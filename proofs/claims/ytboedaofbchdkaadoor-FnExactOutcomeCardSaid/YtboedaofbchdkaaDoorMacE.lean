/- Is a machine right: the program's answer, over this seat's translation; conditions stand as hypotheses of each. -/
import Derived.Test.YtboedaofbchdkaaDoorMacD
namespace Go.Proofs.YtboedaofbchdkaaDoor
open Go.ChangeShapes Go.WideShapes Go.ChangeAt Go.RowKit
set_option linter.unusedVariables false
set_option maxRecDepth 8000
set_option linter.unusedSimpArgs false

set_option maxHeartbeats 4000000 in
theorem okI_any (x : Mv) (d : Md) (w : World) (hs : x.small) (hx : RdM w x d) : Calls Tryd.prog 30 #[.agg x.cs] w fun e w' => e = .returned (.bool (d.ok x.st)) ∧ Below w.heap.size w w' := by
  have HB := hide ((Below.refl w.heap.size w).alloc (Nat.le_refl _) (.cells x.cs 32))
  have X := hide (hx.later (unhide HB))
  have W0 := hide (wordsI_any x.m.a x.m.n x.m.c d.m _ hx.ml (by have := hs.1; omega) (unhide X).m)
  have W1 := hide (wordsI_any x.r.a x.r.n x.r.c d.r _ hx.rl (by have := hs.2.1; omega) (unhide X).r)
  have W2 := hide (wordsI_any x.i.a x.i.n x.i.c d.i _ hx.il (by have := hs.2.2.1; omega) (unhide X).i)
  have W3 := hide (wordsI_any x.o.a x.o.n x.o.c d.o _ hx.ol (by have := hs.2.2.2; omega) (unhide X).o)
  have c0 : x.cs[0]? = some (.slice x.m.a x.m.n x.m.c) := rfl
  have c1 : x.cs[1]? = some (.slice x.r.a x.r.n x.r.c) := rfl
  have c6 : x.cs[6]? = some (.slice x.i.a x.i.n x.i.c) := rfl
  have c7 : x.cs[7]? = some (.slice x.o.a x.o.n x.o.c) := rfl
  have c8 : x.cs[8]? = some (.int .i64 x.st) := rfl
  unfold Md.ok
  rw [hx.ml, hx.rl, hx.il, hx.ol]
  clear hx hs X
  generalize wdB d.m = b0 at W0 ⊢
  generalize wdB d.r = b1 at W1 ⊢
  generalize wdB d.i = b2 at W2 ⊢
  generalize wdB d.o = b3 at W3 ⊢
  by_cases h1 : (x.m.n : Int) = 256
  rotate_left
  · rw [show ((x.m.n : Int) == 256) = false by simpa using h1]
    go_enter Tryd.func30, Tryd.ntmps30
    go_wp2
    go_ret
    exact ⟨ret_bool (by simp), unhide HB⟩
  rw [show ((x.m.n : Int) == 256) = true by simpa using h1]
  have g1 : 256 ≤ x.m.n ∧ x.m.n ≤ 256 := by omega
  obtain ⟨g1a, g1b⟩ := g1
  clear h1
  by_cases h2 : (x.r.n : Int) = 8
  rotate_left
  · rw [show ((x.r.n : Int) == 8) = false by simpa using h2]
    go_enter Tryd.func30, Tryd.ntmps30
    go_wp2
    go_ret
    exact ⟨ret_bool (by simp), unhide HB⟩
  rw [show ((x.r.n : Int) == 8) = true by simpa using h2]
  have g2 : 8 ≤ x.r.n ∧ x.r.n ≤ 8 := by omega
  obtain ⟨g2a, g2b⟩ := g2
  clear h2
  by_cases h3 : (x.i.n : Int) ≤ 50
  rotate_left
  · rw [decide_eq_false h3]
    go_enter Tryd.func30, Tryd.ntmps30
    go_wp2
    go_ret
    exact ⟨ret_bool (by simp), unhide HB⟩
  rw [decide_eq_true h3]
  by_cases h4 : (x.o.n : Int) ≤ 50
  rotate_left
  · rw [decide_eq_false h4]
    go_enter Tryd.func30, Tryd.ntmps30
    go_wp2
    go_ret
    exact ⟨ret_bool (by simp), unhide HB⟩
  rw [decide_eq_true h4]
  obtain ⟨B, hB⟩ : ∃ B : Nat → Bool, B = fun j => if j = 0 then b0 else if j = 1 then b1 else if j = 2 then b2 else b3 := ⟨_, rfl⟩
  have HBB := hide hB
  clear hB
  have ix0 : ∀ w, (Instr.index 92 (.agg #[Value.slice x.m.a x.m.n x.m.c, Value.slice x.r.a x.r.n x.r.c, Value.slice x.i.a x.i.n x.i.c, Value.slice x.o.a x.o.n x.o.c]) (.int .i64 0)).run Tryd.prog w = .ok (.slice x.m.a x.m.n x.m.c) w := fun w => by kernel_rfl
  have ix1 : ∀ w, (Instr.index 92 (.agg #[Value.slice x.m.a x.m.n x.m.c, Value.slice x.r.a x.r.n x.r.c, Value.slice x.i.a x.i.n x.i.c, Value.slice x.o.a x.o.n x.o.c]) (.int .i64 1)).run Tryd.prog w = .ok (.slice x.r.a x.r.n x.r.c) w := fun w => by kernel_rfl
  have ix2 : ∀ w, (Instr.index 92 (.agg #[Value.slice x.m.a x.m.n x.m.c, Value.slice x.r.a x.r.n x.r.c, Value.slice x.i.a x.i.n x.i.c, Value.slice x.o.a x.o.n x.o.c]) (.int .i64 2)).run Tryd.prog w = .ok (.slice x.i.a x.i.n x.i.c) w := fun w => by kernel_rfl
  have ix3 : ∀ w, (Instr.index 92 (.agg #[Value.slice x.m.a x.m.n x.m.c, Value.slice x.r.a x.r.n x.r.c, Value.slice x.i.a x.i.n x.i.c, Value.slice x.o.a x.o.n x.o.c]) (.int .i64 3)).run Tryd.prog w = .ok (.slice x.o.a x.o.n x.o.c) w := fun w => by kernel_rfl
  go_enter Tryd.func30, Tryd.ntmps30
  go_wp2
  go_loop [4, 36] (fun _ i => ∃ k : Nat, k ≤ 4 ∧ i = .int .i64 k ∧ ∀ j, j < k → B j = true) (fun _ i => 4 - (intOf i).toNat)
  case atStart => exact ⟨0, by omega, rfl, fun j h => by omega⟩
  case round =>
    obtain ⟨k, hk, rfl, hall⟩ := hrel
    by_cases hlt : k < 4
    · have HA := hide hall
      clear hall
      obtain rfl | rfl | rfl | rfl : k = 0 ∨ k = 1 ∨ k = 2 ∨ k = 3 := by omega
      · have hBk : Hid (B 0 = b0) := by rw [show B = _ from unhide HBB]; rfl
        cases b0
        · go_wp2_with (go_at_call 23; refine (unhide W0).mono ?_; rintro e w' ⟨rfl, rfl⟩)
          go_ret
          exact ⟨ret_bool (by simp), unhide HB⟩
        · go_wp2_with (go_at_call 23; refine (unhide W0).mono ?_; rintro e w' ⟨rfl, rfl⟩)
          go_round
          case rel => exact ⟨1, by omega, by go_num, fun j hj => by
            by_cases e : j = 0
            · rw [e]; exact unhide hBk
            · exact unhide HA j (by omega)⟩
          case measure => simp [intOf]
      · have hBk : Hid (B 1 = b1) := by rw [show B = _ from unhide HBB]; rfl
        cases b1
        · go_wp2_with (go_at_call 23; refine (unhide W1).mono ?_; rintro e w' ⟨rfl, rfl⟩)
          go_ret
          exact ⟨ret_bool (by simp), unhide HB⟩
        · go_wp2_with (go_at_call 23; refine (unhide W1).mono ?_; rintro e w' ⟨rfl, rfl⟩)
          go_round
          case rel => exact ⟨2, by omega, by go_num, fun j hj => by
            by_cases e : j = 1
            · rw [e]; exact unhide hBk
            · exact unhide HA j (by omega)⟩
          case measure => simp [intOf]
      · have hBk : Hid (B 2 = b2) := by rw [show B = _ from unhide HBB]; rfl
        cases b2
        · go_wp2_with (go_at_call 23; refine (unhide W2).mono ?_; rintro e w' ⟨rfl, rfl⟩)
          go_ret
          exact ⟨ret_bool (by simp), unhide HB⟩
        · go_wp2_with (go_at_call 23; refine (unhide W2).mono ?_; rintro e w' ⟨rfl, rfl⟩)
          go_round
          case rel => exact ⟨3, by omega, by go_num, fun j hj => by
            by_cases e : j = 2
            · rw [e]; exact unhide hBk
            · exact unhide HA j (by omega)⟩
          case measure => simp [intOf]
      · have hBk : Hid (B 3 = b3) := by rw [show B = _ from unhide HBB]; rfl
        cases b3
        · go_wp2_with (go_at_call 23; refine (unhide W3).mono ?_; rintro e w' ⟨rfl, rfl⟩)
          go_ret
          exact ⟨ret_bool (by simp), unhide HB⟩
        · go_wp2_with (go_at_call 23; refine (unhide W3).mono ?_; rintro e w' ⟨rfl, rfl⟩)
          go_round
          case rel => exact ⟨4, by omega, by go_num, fun j hj => by
            by_cases e : j = 3
            · rw [e]; exact unhide hBk
            · exact unhide HA j (by omega)⟩
          case measure => simp [intOf]
    · obtain rfl : k = 4 := by omega
      have e := unhide HBB
      have a0 := hall 0 (by omega)
      have a1 := hall 1 (by omega)
      have a2 := hall 2 (by omega)
      have a3 := hall 3 (by omega)
      rw [show B = _ from e] at a0 a1 a2 a3
      simp only [↓reduceIte, Nat.reduceEqDiff, Nat.one_ne_zero] at a0 a1 a2 a3
      subst a0 a1 a2 a3
      clear e hall HBB
      by_cases s0 : x.st = 0
      · have e0 : (x.st == 0) = true := by simpa using s0
        have F : inB x.st 0 2 = true := by unfold inB; simp; omega
        have HF := hide F
        clear F s0
        go_wp2
        go_ret
        exact ⟨ret_bool (by simp [unhide HF]), unhide HB⟩
      have e0 : (x.st == 0) = false := by simpa using s0
      by_cases s1 : x.st = 1
      · have e1 : (x.st == 1) = true := by simpa using s1
        have F : inB x.st 0 2 = true := by unfold inB; simp; omega
        have HF := hide F
        clear F s0 s1
        go_wp2
        go_ret
        exact ⟨ret_bool (by simp [unhide HF]), unhide HB⟩
      have e1 : (x.st == 1) = false := by simpa using s1
      have F : inB x.st 0 2 = (x.st == 2) := by unfold inB; rw [Bool.eq_iff_iff]; simp; omega
      cases e2 : (x.st == 2)
      all_goals rw [e2] at F
      all_goals have HF := hide F
      all_goals clear F s0 s1
      · go_wp2
        go_ret
        exact ⟨ret_bool (by simp [unhide HF]), unhide HB⟩
      · go_wp2
        go_ret
        exact ⟨ret_bool (by simp [unhide HF]), unhide HB⟩
end Go.Proofs.YtboedaofbchdkaaDoor
