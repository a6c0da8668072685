/- Contracts of Wrap and SumOf (the program's and the model's) and of the laws' comparisons of bytes, over this seat's translation; conditions stand as hypotheses of each. -/
import Derived.Test.YtjpbjbnialehbaaBase
import Derived.Laws.BitsLemmas
import Derived.Deep.QuietTactic
import Derived.BigQuiet
namespace Go.Proofs.Ytjpbjbnialehbaa
open Go.ChangeShapes Go.WideShapes Go.ChangeAt Go.RowKit
set_option linter.unusedVariables false
set_option maxRecDepth 8000

theorem i64_and65535 (n : Int) : bits .and .i64 n 65535 = n % 65536 := by
  have h127 : (BitVec.ofInt 64 65535).toNat = 2 ^ 16 - 1 := by decide
  have key : (BitVec.ofInt 64 n &&& BitVec.ofInt 64 65535).toNat = (n % ((2 ^ 64 : Nat) : Int)).toNat % 2 ^ 16 := by
    rw [BitVec.toNat_and, BitVec.toNat_ofInt, h127, Nat.and_two_pow_sub_one_eq_mod]
  show IntKind.i64.wrap ((BitVec.ofInt 64 n &&& BitVec.ofInt 64 65535).toNat : Nat) = n % 65536
  rw [key, IntKind.wrap_i64]
  omega

theorem ret_int {k : IntKind} {a b : Int} (h : a = b) : Ending.returned (.int k a) = .returned (.int k b) := by rw [h]

theorem wrapI_any (n : Int) (w : World) : Calls Try.prog 16 #[.int .i64 n] w fun e w' => e = .returned (.int .i64 (n % 65536)) ∧ w' = w := by
  go_enter Try.func16, Try.ntmps16
  go_wp2
  go_ret
  exact ⟨ret_int (i64_and65535 n), rfl⟩
theorem wrapS_any (n : Int) (w : World) : Calls Try.prog 50 #[.int .i64 n] w fun e w' => e = .returned (.int .i64 (n % 65536)) ∧ w' = w := by
  go_enter Try.func50, Try.ntmps50
  go_wp2
  go_ret
  exact ⟨ret_int (i64_and65535 n), rfl⟩

/-- The sum of the first k bytes. -/
def tot (xs : List UInt8) : Nat → Int
  | 0 => 0
  | k + 1 => tot xs k + bAt xs k
theorem tot_bd (xs : List UInt8) (k : Nat) : 0 ≤ tot xs k ∧ tot xs k ≤ 255 * k := by
  induction k with
  | zero => simp [tot]
  | succ k ih => have := bAt_bd xs k; simp only [tot]; omega
/-- Minus that sum, as a word. -/
def negTot (xs : List UInt8) (k : Nat) : Int := (-(tot xs k)) % 65536
theorem negTot_bd (xs : List UInt8) (k : Nat) : 0 ≤ negTot xs k ∧ negTot xs k ≤ 65535 := by unfold negTot; omega
theorem negTot_succ (xs : List UInt8) (k : Nat) : (negTot xs k - bAt xs k) % 65536 = negTot xs (k + 1) := by
  unfold negTot; simp only [tot]; omega

end Go.Proofs.Ytjpbjbnialehbaa
