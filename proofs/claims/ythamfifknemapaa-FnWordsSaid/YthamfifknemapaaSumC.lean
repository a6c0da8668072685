/- Contracts of Wrap and SumOf (the program's and the model's) and of the laws' comparisons of bytes, over this seat's translation; conditions stand as hypotheses of each. -/
import Derived.Test.YthamfifknemapaaBase
import Derived.Laws.BitsLemmas
import Derived.Deep.QuietTactic
import Derived.BigQuiet
namespace Go.Proofs.Ythamfifknemapaa
open Go.ChangeShapes Go.WideShapes Go.ChangeAt Go.RowKit
set_option linter.unusedVariables false

theorem i64_and65535 (n : Int) : bits .and .i64 n 65535 = n % 65536 := by
  have h127 : (BitVec.ofInt 64 65535).toNat = 2 ^ 16 - 1 := by decide
  have key : (BitVec.ofInt 64 n &&& BitVec.ofInt 64 65535).toNat = (n % ((2 ^ 64 : Nat) : Int)).toNat % 2 ^ 16 := by
    rw [BitVec.toNat_and, BitVec.toNat_ofInt, h127, Nat.and_two_pow_sub_one_eq_mod]
  show IntKind.i64.wrap ((BitVec.ofInt 64 n &&& BitVec.ofInt 64 65535).toNat : Nat) = n % 65536
  rw [key, IntKind.wrap_i64]
  omega

theorem ret_int {k : IntKind} {a b : Int} (h : a = b) : Ending.returned (.int k a) = .returned (.int k b) := by rw [h]

theorem wrapI_any (n : Int) (w : World) : Calls Try.prog 21 #[.int .i64 n] w fun e w' => e = .returned (.int .i64 (n % 65536)) ∧ w' = w := by
  go_enter Try.func21, Try.ntmps21
  go_wp2
  go_ret
  exact ⟨ret_int (i64_and65535 n), rfl⟩
theorem wrapS_any (n : Int) (w : World) : Calls Try.prog 25 #[.int .i64 n] w fun e w' => e = .returned (.int .i64 (n % 65536)) ∧ w' = w := by
  go_enter Try.func25, Try.ntmps25
  go_wp2
  go_ret
  exact ⟨ret_int (i64_and65535 n), rfl⟩

/-- The sum of the first k bytes. -/
def tot (xs : List UInt8) : Nat → Int
  | 0 => 0
  | k + 1 => tot xs k + bAt xs k
theorem tot_bd (xs : List UInt8) (k : Nat) : 0 ≤ tot xs k ∧ tot xs k ≤ 255 * k := by
  induction k with
  | zero => simp [tot]
  | succ k ih => have := bAt_bd xs k; simp only [tot]; omega
/-- Minus that sum, as a word. -/
def negTot (xs : List UInt8) (k : Nat) : Int := (-(tot xs k)) % 65536
theorem negTot_bd (xs : List UInt8) (k : Nat) : 0 ≤ negTot xs k ∧ negTot xs k ≤ 65535 := by unfold negTot; omega
theorem negTot_succ (xs : List UInt8) (k : Nat) : (negTot xs k - bAt xs k) % 65536 = negTot xs (k + 1) := by
  unfold negTot; simp only [tot]; omega

set_option maxHeartbeats 400000 in
theorem sumS_any (a : Option Addr) (len cap : Nat) (xs : List UInt8) (w : World) (hl : xs.length = len) (hm : len ≤ 1099511627776) (hr : Rd w a xs) :
    Calls Try.prog 35 #[.slice a len cap] w fun e w' => e = .returned (.int .i64 (negTot xs len)) ∧ w' = w := by
  go_enter Try.func35, Try.ntmps35
  go_wp2
  go_loop [3, 4] (fun n i => ∃ k : Nat, k ≤ len ∧ i = .int .i64 k ∧ n = .int .i64 (negTot xs k)) (fun _ i => len - (intOf i).toNat)
  case atStart => exact ⟨0, Nat.zero_le _, rfl, rfl⟩
  case round =>
    obtain ⟨k, hk, rfl, rfl⟩ := hrel
    by_cases hlt : k < len
    · rcases hr with rfl | ⟨b, off, rfl, hb, hc⟩
      · simp at hl; omega
      have hcx := hc k (by omega)
      have hbd := bAt_bd xs k
      have hnb := negTot_bd xs k
      have HS := negTot_succ xs k
      have HS' : Hid ((negTot xs k - bAt xs k) % 65536 = negTot xs (k + 1)) := HS
      clear HS hc
      go_wp2_with (go_at_call 25; refine (wrapS_any _ _).mono ?_; rintro e w' ⟨rfl, rfl⟩)
      go_round
      case rel => exact ⟨k + 1, by omega, by go_num, by rw [← HS'.out]⟩
      case measure => simp [intOf]; omega
    · go_wp2
      go_ret
      exact ⟨ret_int (by rw [show k = len by omega]), rfl⟩

set_option maxHeartbeats 400000 in
theorem sumI_any (a : Option Addr) (len cap : Nat) (xs : List UInt8) (w : World) (hl : xs.length = len) (hm : len ≤ 1099511627776) (hr : Rd w a xs) :
    Calls Try.prog 23 #[.slice a len cap] w fun e w' => e = .returned (.int .i64 (negTot xs len)) ∧ w' = w := by
  go_enter Try.func23, Try.ntmps23
  go_wp2
  go_loop [3, 8] (fun n i => ∃ k : Nat, k ≤ len ∧ i = .int .i64 k ∧ n = .int .i64 (tot xs k)) (fun _ i => len - (intOf i).toNat)
  case atStart => exact ⟨0, Nat.zero_le _, rfl, rfl⟩
  case round =>
    obtain ⟨k, hk, rfl, rfl⟩ := hrel
    have hnb := tot_bd xs k
    by_cases hlt : k < len
    · rcases hr with rfl | ⟨b, off, rfl, hb, hc⟩
      · simp at hl; omega
      have hcx := hc k (by omega)
      have hbd := bAt_bd xs k
      clear hc
      go_wp2
      go_round
      case rel => exact ⟨k + 1, by omega, by go_num, by simp only [tot]⟩
      case measure => simp [intOf]; omega
    · go_wp2_with (go_at_call 21; refine (wrapI_any _ _).mono ?_; rintro e w' ⟨rfl, rfl⟩)
      go_ret
      exact ⟨ret_int (by rw [show k = len by omega]; rfl), rfl⟩

set_option maxHeartbeats 400000 in
theorem eqByteS_same (a a' : Option Addr) (len cap cap' : Nat) (xs : List UInt8) (w : World) (hl : xs.length = len) (hm : len ≤ 140737488355328) (hr : Rd w a xs) (hr' : Rd w a' xs) :
    Calls Try.prog 29 #[.slice a len cap, .slice a' len cap'] w fun e w' => e = .returned (.bool true) ∧ Below w.heap.size w w' := by
  go_enter Try.func29, Try.ntmps29
  go_wp2
  go_loopw [5] (fun i wr => ∃ k : Nat, k ≤ len ∧ i = .int .i64 k ∧ Below w.heap.size w wr) (fun i _ => len - (intOf i).toNat)
  case atStart => exact ⟨0, Nat.zero_le _, rfl, Below.refl _ _⟩
  case round =>
    obtain ⟨k, hk, rfl, hbel⟩ := hrel
    by_cases hlt : k < len
    · rcases hr with rfl | ⟨b, off, rfl, hb, hc⟩
      · simp at hl; omega
      rcases hr' with rfl | ⟨b', off', rfl, hb', hc'⟩
      · simp at hl; omega
      have hcx : wr.cell? ⟨b, off + k, none⟩ = some (.int .u8 (bAt xs k)) := (hbel.cell (p := ⟨b, off + k, none⟩) hb).trans (hc k (by omega))
      have hcx' : wr.cell? ⟨b', off' + k, none⟩ = some (.int .u8 (bAt xs k)) := (hbel.cell (p := ⟨b', off' + k, none⟩) hb').trans (hc' k (by omega))
      have hlt' : (k : Int) < (len : Int) := by omega
      clear hc hc'
      go_wp2
      go_region
      all_goals go_wp2
      all_goals go_roundw
      case rel => exact ⟨k + 1, by omega, by go_num, hbel.drew⟩
      case measure => simp [intOf]; omega
    · go_wp2
      go_ret
      exact ⟨rfl, hbel⟩
end Go.Proofs.Ythamfifknemapaa
