/- Contracts of Oct, the program's and the model's, over this seat's translation; conditions stand as hypotheses of each. -/
import Derived.Test.YtemglcdglnjakaaTkA
import Derived.Deep.OwnRows
import Derived.WalkSpells
import Derived.Laws.BitsLemmas
import Derived.Laws.IdiomStrings
import Derived.WalkLawsBesides
import Derived.ShutString
namespace Go.Proofs.Ytemglcdglnjakaa
open Go.ChangeShapes Go.WideShapes Go.ChangeAt Go.RowKit
set_option linter.unusedVariables false
set_option maxRecDepth 8000


theorem i64_and7 (n : Int) : bits .and .i64 n 7 = n % 8 := by
  have h127 : (BitVec.ofInt 64 7).toNat = 2 ^ 3 - 1 := by decide
  have key : (BitVec.ofInt 64 n &&& BitVec.ofInt 64 7).toNat = (n % ((2 ^ 64 : Nat) : Int)).toNat % 2 ^ 3 := by
    rw [BitVec.toNat_and, BitVec.toNat_ofInt, h127, Nat.and_two_pow_sub_one_eq_mod]
  show IntKind.i64.wrap ((BitVec.ofInt 64 n &&& BitVec.ofInt 64 7).toNat : Nat) = n % 8
  rw [key, IntKind.wrap_i64]
  omega

theorem ret_str {a b : ByteArray} (h : a = b) : Ending.returned (.string a) = .returned (.string b) := by rw [h]

def dg (x : Nat) : UInt8 := UInt8.ofNat (48 + x)
/-- The digits to the base 8, in at most so many steps. -/
def octF : Nat → Nat → List UInt8
  | 0, n => [dg n]
  | k + 1, n => if n < 8 then [dg n] else octF k (n / 8) ++ [dg (n % 8)]
theorem octF_same (k : Nat) : ∀ j n, n ≤ k → n ≤ j → octF k n = octF j n := by
  induction k with
  | zero =>
    intro j n h1 h2
    obtain rfl : n = 0 := by omega
    cases j with
    | zero => rfl
    | succ j => rfl
  | succ k ih =>
    intro j n h1 h2
    cases j with
    | zero =>
      obtain rfl : n = 0 := by omega
      rfl
    | succ j =>
      show (if n < 8 then [dg n] else octF k (n / 8) ++ [dg (n % 8)]) = (if n < 8 then [dg n] else octF j (n / 8) ++ [dg (n % 8)])
      by_cases h : n < 8
      · rw [if_pos h, if_pos h]
      · rw [if_neg h, if_neg h, ih j (n / 8) (by omega) (by omega)]
/-- The digits to the base 8. -/
def octD (n : Nat) : List UInt8 := octF n n
theorem octD_step (n : Nat) : octD n = if n < 8 then [dg n] else octD (n / 8) ++ [dg (n % 8)] := by
  unfold octD
  rw [octF_same n (n + 1) n (Nat.le_refl _) (by omega)]
  show (if n < 8 then [dg n] else octF n (n / 8) ++ [dg (n % 8)]) = _
  rw [octF_same n (n / 8) (n / 8) (by omega) (Nat.le_refl _)]
theorem octD_small (n : Nat) (h : n < 8) : octD n = [dg n] := by rw [octD_step, if_pos h]
theorem octD_big (n : Nat) (h : ¬ n < 8) : octD n = octD (n / 8) ++ [dg (n % 8)] := by rw [octD_step, if_neg h]
def octP (n : Nat) : List UInt8 := if n < 8 then [] else octD (n / 8)
theorem octD_split (n : Nat) : octD n = octP n ++ [dg (n % 8)] := by
  unfold octP
  by_cases h : n < 8
  · rw [if_pos h, octD_small n h, Nat.mod_eq_of_lt h]; rfl
  · rw [if_neg h, octD_big n h]
theorem octD_len (n : Nat) : ∀ k, n < 8 ^ (k + 1) → (octD n).length ≤ k + 1 := by
  intro k
  induction k generalizing n with
  | zero => intro h; rw [octD_small n (by omega)]; simp
  | succ k ih =>
    intro h
    by_cases h8 : n < 8
    · rw [octD_small n h8]; simp
    · rw [octD_big n h8, List.length_append]
      have := ih (n / 8) (by rw [Nat.pow_succ] at h; omega)
      simp; omega

def strOf (l : List UInt8) : ByteArray := ⟨l.toArray⟩

theorem strOf_size (l : List UInt8) : (strOf l).size = l.length := by show l.toArray.size = _; simp
theorem strOf_list (l : List UInt8) : (strOf l).data.toList = l := by simp [strOf]
theorem strOf_of (s : ByteArray) : strOf s.data.toList = s := by apply ByteArray.ext; simp [strOf]
theorem strOf_append (a b : List UInt8) : strOf a ++ strOf b = strOf (a ++ b) := by apply ByteArray.ext; show (strOf a ++ strOf b).data = _; rw [ByteArray.data_append]; simp [strOf]

theorem one_conv (W : World) (d : Nat) (hd : d < 8) (x : Int) (hx : x = 48 + (d : Int)) (b : Nat) (hb : b = W.heap.size) : (convert 52 9 (.slice (some ⟨b, 0, none⟩) 1 1)).run Try.prog (W.alloc (.cells #[.int .u8 x] 5)) = .ok (.string (strOf [dg d])) (W.alloc (.cells #[.int .u8 x] 5)) := by
  subst hb
  exact run_convert_bytes_back (P := Try.prog) (W.alloc (.cells #[.int .u8 x] 5)) 52 9 5 ⟨W.heap.size, 0, none⟩ 1 [dg d] Try.underlying52 Try.underlying5 Try.underlying9 (fun j hj => by
    obtain rfl : j = 0 := by simp at hj; omega
    have e : ((dg d).toNat : Int) = x := by unfold dg; simp; omega
    simp only [List.getElem_cons_zero, e]
    simp [Addr.add])

theorem tz_num : IntKind.u64.wrap (bits BinOp.and IntKind.u64 8 (IntKind.u64.wrap (-8)) * 285870213051353865) / 288230376151711744 = 7 := by decide +kernel

def bOf (xs : List UInt8) (i : Nat) : Int := ((xs.getD i 0).toNat : Int)
/-- The last bytes of the row: noughts, then t. -/
def tail65 (t : List UInt8) (p j : Nat) : Value := if j < p then .int .u8 0 else .int .u8 (bOf t (j - p))
theorem u64_and7 (m : Nat) (hm : m < 65536) : bits .and .u64 (m : Int) 7 = ((m % 8 : Nat) : Int) := by
  have := bits_mask .u64 63 (by decide) (fun n a b => by rw [IntKind.wrap_u64]; omega) 3 (by decide) (m : Int) (by omega) (by omega)
  have e : (2 : Int) ^ 3 - 1 = 7 := by decide
  rw [e] at this
  rw [this]
  omega

def z65 : Array Value := (List.replicate 65 (Value.int .u8 0)).toArray
theorem z65_size : z65.size = 65 := by unfold z65; rw [List.size_toArray, List.length_replicate]
theorem z65_get (i : Nat) (h : i < 65) : z65[i]? = some (Value.int .u8 0) := by unfold z65; rw [List.getElem?_toArray, List.getElem?_replicate, if_pos h]
theorem digit_at (d : Nat) (h8 : d < 8) : ∀ h, (({ data := #[48, 49, 50, 51, 52, 53, 54, 55, 56, 57, 97, 98, 99, 100, 101, 102, 103, 104, 105, 106, 107, 108, 109, 110, 111, 112, 113, 114, 115, 116, 117, 118, 119, 120, 121, 122] } : ByteArray)[d]'h).toNat = 48 + d := by
  match d, h8 with
  | 0, _ => intro h; rfl
  | 1, _ => intro h; rfl
  | 2, _ => intro h; rfl
  | 3, _ => intro h; rfl
  | 4, _ => intro h; rfl
  | 5, _ => intro h; rfl
  | 6, _ => intro h; rfl
  | 7, _ => intro h; rfl
theorem dg_val (d : Nat) (h : d < 8) : ((dg d).toNat : Int) = 48 + d := by unfold dg; simp; omega

end Go.Proofs.Ytemglcdglnjakaa
