/- What masks and shifts make of a word; no condition but what stands as hypotheses. -/
import Derived.Test.YtomoakfemdjpbaaDoorCodeG
namespace Go.Proofs.YtomoakfemdjpbaaDoor
open Go.ChangeShapes Go.WideShapes Go.ChangeAt Go.RowKit
set_option linter.unusedVariables false

theorem and_high (n k j : Nat) (h : n < 2 ^ (k + j)) : n &&& ((2 ^ j - 1) * 2 ^ k) = n / 2 ^ k * 2 ^ k := by
  apply Nat.eq_of_testBit_eq
  intro i
  rw [Nat.testBit_and, Nat.testBit_mul_two_pow, Nat.testBit_mul_two_pow, Nat.testBit_two_pow_sub_one, Nat.testBit_div_two_pow]
  by_cases hi : k ≤ i
  · have e : k + (i - k) = i := by omega
    have e2 : i - k + k = i := by omega
    simp only [hi, e2, decide_true, Bool.true_and]
    by_cases hj : i - k < j
    · simp [hj]
    · have : n.testBit i = false := Nat.testBit_lt_two_pow (Nat.lt_of_lt_of_le h (Nat.pow_le_pow_right (by omega) (by omega)))
      simp [hj, this]
  · simp [hi]
theorem bits_and (n m : Nat) (hn : n < 65536) (hm : m < 65536) : bits .and .i64 (n : Int) (m : Int) = ((n &&& m : Nat) : Int) := by
  have key : (BitVec.ofInt 64 (n : Int) &&& BitVec.ofInt 64 (m : Int)).toNat = n &&& m := by
    rw [BitVec.toNat_and, BitVec.toNat_ofInt, BitVec.toNat_ofInt]
    have e1 : ((n : Int) % ((2 ^ 64 : Nat) : Int)).toNat = n := by omega
    have e2 : ((m : Int) % ((2 ^ 64 : Nat) : Int)).toNat = m := by omega
    rw [e1, e2]
  have hle : n &&& m ≤ n := Nat.and_le_left
  show IntKind.i64.wrap ((BitVec.ofInt 64 (n : Int) &&& BitVec.ofInt 64 (m : Int)).toNat : Nat) = _
  rw [key, IntKind.wrap_i64]
  omega
theorem and_F000 (n : Nat) (hn : n < 65536) : bits .and .i64 (n : Int) 61440 = ((n / 4096 * 4096 : Nat) : Int) := by
  rw [show (61440 : Int) = ((61440 : Nat) : Int) from rfl, bits_and n 61440 hn (by omega)]
  exact congrArg Int.ofNat (and_high n 12 4 (by simpa using hn))
theorem and_FFC0 (n : Nat) (hn : n < 65536) : bits .and .i64 (n : Int) 65472 = ((n / 64 * 64 : Nat) : Int) := by
  rw [show (65472 : Int) = ((65472 : Nat) : Int) from rfl, bits_and n 65472 hn (by omega)]
  exact congrArg Int.ofNat (and_high n 6 10 (by simpa using hn))
theorem and_FE00 (n : Nat) (hn : n < 65536) : bits .and .i64 (n : Int) 65024 = ((n / 512 * 512 : Nat) : Int) := by
  rw [show (65024 : Int) = ((65024 : Nat) : Int) from rfl, bits_and n 65024 hn (by omega)]
  exact congrArg Int.ofNat (and_high n 9 7 (by simpa using hn))
theorem and_FFF8 (n : Nat) (hn : n < 65536) : bits .and .i64 (n : Int) 65528 = ((n / 8 * 8 : Nat) : Int) := by
  rw [show (65528 : Int) = ((65528 : Nat) : Int) from rfl, bits_and n 65528 hn (by omega)]
  exact congrArg Int.ofNat (and_high n 3 13 (by simpa using hn))
theorem and_FF00 (n : Nat) (hn : n < 65536) : bits .and .i64 (n : Int) 65280 = ((n / 256 * 256 : Nat) : Int) := by
  rw [show (65280 : Int) = ((65280 : Nat) : Int) from rfl, bits_and n 65280 hn (by omega)]
  exact congrArg Int.ofNat (and_high n 8 8 (by simpa using hn))
theorem and_7 (n : Nat) (hn : n < 65536) : bits .and .i64 (n : Int) 7 = ((n % 8 : Nat) : Int) := by
  rw [show (7 : Int) = ((7 : Nat) : Int) from rfl, bits_and n 7 hn (by omega)]
  exact congrArg Int.ofNat (Nat.and_two_pow_sub_one_eq_mod n 3)
theorem and_FF (n : Nat) (hn : n < 65536) : bits .and .i64 (n : Int) 255 = ((n % 256 : Nat) : Int) := by
  rw [show (255 : Int) = ((255 : Nat) : Int) from rfl, bits_and n 255 hn (by omega)]
  exact congrArg Int.ofNat (Nat.and_two_pow_sub_one_eq_mod n 8)

theorem and_7i (n : Nat) (hn : n < 65536) : bits .and .i64 (n : Int) 7 = (n : Int) % 8 := by rw [and_7 n hn]; omega
theorem and_FFi (n : Nat) (hn : n < 65536) : bits .and .i64 (n : Int) 255 = (n : Int) % 256 := by rw [and_FF n hn]; omega
theorem sh3_7 (n : Nat) (hn : n < 65536) : bits .and .i64 ((n : Int) / 8) 7 = (n : Int) / 8 % 8 := by
  have := and_7i (n / 8) (by omega)
  rw [show ((n / 8 : Nat) : Int) = (n : Int) / 8 by omega] at this
  exact this
theorem sh6_7 (n : Nat) (hn : n < 65536) : bits .and .i64 ((n : Int) / 64) 7 = (n : Int) / 64 % 8 := by
  have := and_7i (n / 64) (by omega)
  rw [show ((n / 64 : Nat) : Int) = (n : Int) / 64 by omega] at this
  exact this
def opdOf (n : Int) : Od := ⟨n / 8 % 8, n % 8, 0⟩
set_option maxHeartbeats 1000000 in
theorem l4Opd_any (n : Nat) (hn : n < 65536) (w : World) : Calls Tryd.prog 51 #[.int .i64 (n : Int)] w fun e w' => e = .returned (opdOf (n : Int)).v ∧ Below w.heap.size w w' := by
  have h1 := and_7i n hn
  have h2 := sh3_7 n hn
  have HG : ∀ o, (w.alloc o).heap[w.heap.size]? = some o := fun o => Array.getElem?_push_size
  have HG' := hide HG
  clear HG
  unfold opdOf Od.v
  simp only
  go_enter Tryd.func51, Tryd.ntmps51
  go_wp2
  refine bodyPost_ret (results_cell_row (P := Tryd.prog) rfl _ _ w.heap.size 25 #[.int .i64 ((n : Int) / 8 % 8), .int .i64 ((n : Int) % 8), .int .i64 0] (0, 0) _ rfl (unhide HG' _) Tryd.underlying25 rfl (by kernel_rfl)) rfl ?_
  exact ⟨rfl, (Below.refl _ _).alloc (Nat.le_refl _) _⟩
end Go.Proofs.YtomoakfemdjpbaaDoor
