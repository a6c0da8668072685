/- Contracts of the program's fields of a first word, over this seat's translation; conditions stand as hypotheses of each. -/
import Derived.Test.YtomoakfemdjpbaaDoorImpC
import Derived.Test.YtomoakfemdjpbaaDoorBits
namespace Go.Proofs.YtomoakfemdjpbaaDoor
open Go.ChangeShapes Go.WideShapes Go.ChangeAt Go.RowKit
set_option linter.unusedVariables false
set_option linter.unusedSimpArgs false

theorem bits_or (n m k : Nat) (hm : m < 2 ^ k) (hn : 2 ^ k * n + m < 65536) : bits .or .i64 ((2 ^ k * n : Nat) : Int) (m : Int) = ((2 ^ k * n + m : Nat) : Int) := by
  have key : (BitVec.ofInt 64 ((2 ^ k * n : Nat) : Int) ||| BitVec.ofInt 64 (m : Int)).toNat = 2 ^ k * n ||| m := by
    rw [BitVec.toNat_or, BitVec.toNat_ofInt, BitVec.toNat_ofInt]
    have e1 : (((2 ^ k * n : Nat) : Int) % ((2 ^ 64 : Nat) : Int)).toNat = 2 ^ k * n := by omega
    have e2 : ((m : Int) % ((2 ^ 64 : Nat) : Int)).toNat = m := by omega
    rw [e1, e2]
  show IntKind.i64.wrap ((BitVec.ofInt 64 ((2 ^ k * n : Nat) : Int) ||| BitVec.ofInt 64 (m : Int)).toNat : Nat) = _
  rw [key, IntKind.wrap_i64, ← Nat.two_pow_add_eq_or_of_lt hm]
  omega
theorem or_8 (m r : Int) (h : 0 ≤ m ∧ m ≤ 7 ∧ 0 ≤ r ∧ r ≤ 7) : bits .or .i64 (m * 8) r = m * 8 + r := by
  obtain ⟨m, rfl⟩ := Int.eq_ofNat_of_zero_le h.1
  obtain ⟨r, rfl⟩ := Int.eq_ofNat_of_zero_le h.2.2.1
  have := bits_or m r 3 (by omega) (by omega)
  rw [show ((2 ^ 3 * m : Nat) : Int) = (m : Int) * 8 by omega, show ((2 ^ 3 * m + r : Nat) : Int) = (m : Int) * 8 + (r : Int) by omega] at this
  exact this
theorem or_64 (m r : Int) (h : 0 ≤ m ∧ m ≤ 63 ∧ 0 ≤ r ∧ r ≤ 63) : bits .or .i64 (m * 64) r = m * 64 + r := by
  obtain ⟨m, rfl⟩ := Int.eq_ofNat_of_zero_le h.1
  obtain ⟨r, rfl⟩ := Int.eq_ofNat_of_zero_le h.2.2.1
  have := bits_or m r 6 (by omega) (by omega)
  rw [show ((2 ^ 6 * m : Nat) : Int) = (m : Int) * 64 by omega, show ((2 ^ 6 * m + r : Nat) : Int) = (m : Int) * 64 + (r : Int) by omega] at this
  exact this

set_option maxHeartbeats 1000000 in
theorem fieldsI_any (o : Od) (h : 0 ≤ o.m ∧ o.m ≤ 7 ∧ 0 ≤ o.r ∧ o.r ≤ 7) (w : World) : Calls Tryd.prog 65 #[o.v] w fun e w' => e = .returned (.int .i64 o.six) ∧ Below w.heap.size w w' := by
  obtain ⟨m, r, x⟩ := o
  unfold Od.v Od.six
  simp only at h ⊢
  have h1 := or_8 m r h
  go_enter Tryd.func65, Tryd.ntmps65
  go_wp2
  go_ret
  exact ⟨rfl, (Below.refl _ _).alloc (Nat.le_refl _) _⟩
end Go.Proofs.YtomoakfemdjpbaaDoor
