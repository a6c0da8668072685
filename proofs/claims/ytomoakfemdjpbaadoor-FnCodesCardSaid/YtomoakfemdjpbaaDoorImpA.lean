/- Contracts of the program's chapter 3, over this seat's translation; conditions stand as hypotheses of each. -/
import Derived.Test.YtomoakfemdjpbaaDoorSubW
import Derived.Laws.BitsLemmas
namespace Go.Proofs.YtomoakfemdjpbaaDoor
open Go.ChangeShapes Go.WideShapes Go.ChangeAt Go.RowKit
set_option linter.unusedVariables false
set_option linter.unusedSimpArgs false

theorem i64_and65535 (n : Int) : bits .and .i64 n 65535 = n % 65536 := by
  have h127 : (BitVec.ofInt 64 65535).toNat = 2 ^ 16 - 1 := by decide
  have key : (BitVec.ofInt 64 n &&& BitVec.ofInt 64 65535).toNat = (n % ((2 ^ 64 : Nat) : Int)).toNat % 2 ^ 16 := by
    rw [BitVec.toNat_and, BitVec.toNat_ofInt, h127, Nat.and_two_pow_sub_one_eq_mod]
  show IntKind.i64.wrap ((BitVec.ofInt 64 n &&& BitVec.ofInt 64 65535).toNat : Nat) = n % 65536
  rw [key, IntKind.wrap_i64]
  omega
theorem isWordI_any (n : Int) (w : World) : Calls Tryd.prog 64 #[.int .i64 n] w fun e w' => e = .returned (.bool (inB n 0 65535)) ∧ w' = w := by
  have H := i64_and65535 n
  have HE := hide (show (n == n % 65536) = inB n 0 65535 by unfold inB; rw [Bool.eq_iff_iff]; simp; omega)
  go_enter Tryd.func64, Tryd.ntmps64
  go_wp2
  go_ret
  exact ⟨by rw [← unhide HE]; rfl, rfl⟩
theorem hasSrc_any (op : Int) (w : World) : Calls Tryd.prog 38 #[.int .i64 op] w fun e w' => e = .returned (.bool (inB op 1 6)) ∧ w' = w := by
  unfold inB
  by_cases h1 : (1 : Int) ≤ op
  · rw [decide_eq_true h1, Bool.true_and]
    go_enter Tryd.func38, Tryd.ntmps38
    go_wp2
    go_ret
    exact ⟨rfl, rfl⟩
  · rw [decide_eq_false h1, Bool.false_and]
    have h3 : decide ((1 : Int) ≤ op) = false := decide_eq_false h1
    go_enter Tryd.func38, Tryd.ntmps38
    go_wp2
    go_ret
    exact ⟨rfl, rfl⟩
theorem hasDst_any (op : Int) (w : World) : Calls Tryd.prog 39 #[.int .i64 op] w fun e w' => e = .returned (.bool (inB op 1 15)) ∧ w' = w := by
  unfold inB
  by_cases h1 : (1 : Int) ≤ op
  · rw [decide_eq_true h1, Bool.true_and]
    go_enter Tryd.func39, Tryd.ntmps39
    go_wp2
    go_ret
    exact ⟨rfl, rfl⟩
  · rw [decide_eq_false h1, Bool.false_and]
    have h3 : decide ((1 : Int) ≤ op) = false := decide_eq_false h1
    go_enter Tryd.func39, Tryd.ntmps39
    go_wp2
    go_ret
    exact ⟨rfl, rfl⟩
def loN (op : Int) : Int := if inB op 17 21 = true then -128 else 0
def hiN (op : Int) : Int := if op = 15 ∨ op = 16 then 7 else if inB op 17 21 = true then 127 else if op = 23 then 255 else 0
set_option maxHeartbeats 1000000 in
theorem bounds_any (op : Int) (w : World) : Calls Tryd.prog 36 #[.int .i64 op] w fun e w' => e = .returned (.tuple #[.int .i64 (loN op), .int .i64 (hiN op)]) ∧ w' = w := by
  have HR := hide (show ∀ a b : Int, a = loN op → b = hiN op → Ending.returned (.tuple #[.int .i64 a, .int .i64 b]) = .returned (.tuple #[.int .i64 (loN op), .int .i64 (hiN op)]) from fun a b h1 h2 => by rw [h1, h2])
  cases h15 : (op == 15)
  · cases h16 : (op == 16)
    · cases h17 : decide (17 ≤ op)
      · cases h23 : (op == 23)
        · go_enter Tryd.func36, Tryd.ntmps36
          go_wp2
          go_ret2
          exact ⟨unhide HR _ _ (by simp at *; simp [loN, inB, *]; omega) (by simp at *; simp [hiN, inB, *]; omega), rfl⟩
        · go_enter Tryd.func36, Tryd.ntmps36
          go_wp2
          go_ret2
          exact ⟨unhide HR _ _ (by simp at *; simp [loN, inB, *]) (by simp at *; simp [hiN, inB, *]), rfl⟩
      · cases h21 : decide (op ≤ 21)
        · cases h23 : (op == 23)
          · go_enter Tryd.func36, Tryd.ntmps36
            go_wp2
            go_ret2
            exact ⟨unhide HR _ _ (by simp at *; simp [loN, inB, *]) (by simp at *; simp [hiN, inB, *]), rfl⟩
          · go_enter Tryd.func36, Tryd.ntmps36
            go_wp2
            go_ret2
            exact ⟨unhide HR _ _ (by simp at *; simp [loN, inB, *]) (by simp at *; simp [hiN, inB, *]), rfl⟩
        · go_enter Tryd.func36, Tryd.ntmps36
          go_wp2
          go_ret2
          exact ⟨unhide HR _ _ (by simp at *; simp [loN, inB, *]) (by simp at *; simp [hiN, inB, *]), rfl⟩
    · go_enter Tryd.func36, Tryd.ntmps36
      go_wp2
      go_ret2
      exact ⟨unhide HR _ _ (by simp at *; simp [loN, inB, *]) (by simp at *; simp [hiN, inB, *]), rfl⟩
  · go_enter Tryd.func36, Tryd.ntmps36
    go_wp2
    go_ret2
    exact ⟨unhide HR _ _ (by simp at *; simp [loN, inB, *]) (by simp at *; simp [hiN, inB, *]), rfl⟩
set_option maxHeartbeats 1000000 in
theorem hasXI_any (o : Od) (w : World) : Calls Tryd.prog 28 #[o.v] w fun e w' => e = .returned (.bool o.hasX) ∧ Below w.heap.size w w' := by
  obtain ⟨m, r, x⟩ := o
  have HR := hide (show ∀ b : Bool, b = Od.hasX ⟨m, r, x⟩ → Ending.returned (.bool b) = .returned (.bool (Od.hasX ⟨m, r, x⟩)) from fun b h => by rw [h])
  unfold Od.v
  simp only
  have hB := hide ((Below.refl w.heap.size w).alloc (Nat.le_refl _) (Obj.cells #[.int .i64 m, .int .i64 r, .int .i64 x] 25))
  cases h6 : (m == 6)
  · cases h7 : (m == 7)
    · cases h2 : (m == 2)
      · cases h3 : (m == 3)
        · go_enter Tryd.func28, Tryd.ntmps28
          go_wp2
          go_ret
          exact ⟨unhide HR _ (by simp [Od.hasX, *]), unhide hB⟩
        · go_enter Tryd.func28, Tryd.ntmps28
          go_wp2
          go_ret
          exact ⟨unhide HR _ (by simp [Od.hasX, *]), unhide hB⟩
      · go_enter Tryd.func28, Tryd.ntmps28
        go_wp2
        go_ret
        exact ⟨unhide HR _ (by simp [Od.hasX, *]), unhide hB⟩
    · go_enter Tryd.func28, Tryd.ntmps28
      go_wp2
      go_ret
      exact ⟨unhide HR _ (by simp [Od.hasX, *]), unhide hB⟩
  · go_enter Tryd.func28, Tryd.ntmps28
    go_wp2
    go_ret
    exact ⟨unhide HR _ (by simp [Od.hasX, *]), unhide hB⟩
end Go.Proofs.YtomoakfemdjpbaaDoor
