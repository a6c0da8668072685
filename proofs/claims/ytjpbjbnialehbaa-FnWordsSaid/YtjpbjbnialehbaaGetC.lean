/- Contracts of GetW (the program's and the model's), over this seat's translation; conditions stand as hypotheses of each. -/
import Derived.Test.YtjpbjbnialehbaaSumC
import Derived.WalkSmall
namespace Go.Proofs.Ytjpbjbnialehbaa
open Go.ChangeShapes Go.WideShapes Go.ChangeAt Go.RowKit
set_option linter.unusedVariables false
set_option maxRecDepth 8000

/-- The word at a place: its two bytes, the lower first. -/
def wAt (xs : List UInt8) (n : Nat) : Int := bits .or .i64 (bAt xs n) (bAt xs (n + 1) * 256)

theorem wAt_eq (xs : List UInt8) (n : Nat) : wAt xs n = bAt xs n + 256 * bAt xs (n + 1) := by
  unfold wAt
  have h0 := bAt_bd xs n
  have h1 := bAt_bd xs (n + 1)
  have hw : bAt xs (n + 1) * 256 = 256 * bAt xs (n + 1) := by omega
  have hc : bits .or .i64 (bAt xs n) (256 * bAt xs (n + 1)) = bits .or .i64 (256 * bAt xs (n + 1)) (bAt xs n) := by simp only [bits, BitVec.or_comm]
  have hwr : ∀ n : Int, 0 ≤ n → n < 2 ^ 62 → IntKind.i64.wrap n = n := fun n a b => by rw [IntKind.wrap_i64]; omega
  rw [hw, hc, bits_join .i64 62 (by decide) hwr 8 _ _ (by omega) (by omega) (by omega) (by omega) (by omega) (by omega)]
  omega

theorem wAt_bd (xs : List UInt8) (n : Nat) : 0 ≤ wAt xs n ∧ wAt xs n ≤ 65535 := by
  rw [wAt_eq]; have h0 := bAt_bd xs n; have h1 := bAt_bd xs (n + 1); omega

set_option maxHeartbeats 400000 in
theorem getWI_no (a : Option Addr) (len cap : Nat) (at_ : Int) (w : World) (hm : len ≤ 9223372036854775807) (h0 : -9223372036854775808 ≤ at_) (h1 : at_ ≤ 9223372036854775807) (h : at_ < 0 ∨ (len : Int) < at_ + 2) :
    Calls Try.prog 10 #[.slice a len cap, .int .i64 at_] w fun e w' => e = .returned (.tuple #[.int .i64 0, .int .i64 0, .bool false]) ∧ w' = w := by
  by_cases hn : at_ < 0
  · go_enter Try.func10, Try.ntmps10
    go_wp2
    go_ret3
    exact ⟨rfl, rfl⟩
  · have hp : 0 ≤ at_ := by omega
    have hq : (len : Int) - 2 < at_ := by omega
    clear h hn
    go_enter Try.func10, Try.ntmps10
    go_wp2
    go_ret3
    exact ⟨rfl, rfl⟩

set_option maxHeartbeats 400000 in
theorem getWI_yes (a : Option Addr) (len cap : Nat) (n : Nat) (xs : List UInt8) (w : World) (hl : xs.length = len) (hm : len ≤ 9223372036854775807) (hr : Rd w a xs) (h : n + 2 ≤ len) :
    Calls Try.prog 10 #[.slice a len cap, .int .i64 n] w fun e w' => e = .returned (.tuple #[.int .i64 (wAt xs n), .int .i64 (n + 2), .bool true]) ∧ Below w.heap.size w w' := by
  rcases hr with rfl | ⟨b, off, rfl, hb, hc⟩
  · simp at hl; omega
  have c0 := hc n (by omega)
  have c1 := hc (n + 1) (by omega)
  have b0 := bAt_bd xs n
  have b1 := bAt_bd xs (n + 1)
  have i0 : (n : Int) < (len : Int) := by omega
  have i1 : (n : Int) + 1 < (len : Int) := by omega
  have i2 : ¬ (len : Int) - 2 < (n : Int) := by omega
  clear hc
  go_enter Try.func10, Try.ntmps10
  go_wp2
  go_quiet (fail)
  go_wp2
  go_ret3
  exact ⟨rfl, below_drewN (Below.refl _ _) _⟩

end Go.Proofs.Ytjpbjbnialehbaa
