/- Contracts over this seat's translation, laid together; conditions stand as hypotheses of each. -/
import Derived.Test.YtmhcbehplhfgfaaDoorProg
import GoSem.Claim
import Derived.JoinedTies
import Derived.KernelRfl
import Derived.WalkKit
import Derived.ProofKit
import Derived.OpenShut
import Derived.ShutString
import Derived.ChangeOld
import Derived.Below
import Derived.Deep.OwnRows
import Derived.WalkSpells
import Derived.Deep.DeepMust
import Derived.BigQuiet
import Derived.WalkLawsBesides
import Derived.Laws.BitsLemmas
import Derived.Laws.IdiomStrings
import Derived.Lib.Bytealg
import Derived.Laws.Strings3
import Derived.LaidLaws
import Derived.Lib.LaidTab
import Derived.Laws.Rows
import Derived.WalkMore
import Derived.Laws.ResultCell
import Derived.Laws.AppendOwnNone
import Derived.Laws.OwnMore
import Derived.Laws.CopyOwn
import Derived.OwnWalk
import Derived.Laws.MakeOwn
import Derived.Deep.RegionWith
import Derived.Lib.BufferWrite
import Derived.Lib.UnsafeStr
import Derived.Lib.IfaceEq
import Derived.Lib.AtoiErrMem
import Derived.Lib.Walk
import Derived.Laws.Closers25b
import Derived.BigGuard

namespace Go.Proofs.YtmhcbehplhfgfaaDoor
open Go.ChangeShapes Go.WideShapes Go.ChangeAt Go.RowKit
set_option linter.unusedVariables false
set_option maxRecDepth 8000

theorem hide {p : Prop} (h : p) : Hid p := h
theorem unhide {p : Prop} (h : Hid p) : p := h
def inB (x a b : Int) : Bool := decide (a ≤ x) && decide (x ≤ b)
theorem inB_t (x a b : Int) (h1 : a ≤ x) (h2 : x ≤ b) : inB x a b = true := by unfold inB; simp [h1, h2]
theorem inB_f (x a b : Int) (h : ¬ (a ≤ x ∧ x ≤ b)) : inB x a b = false := by unfold inB; simp; omega
theorem inB_iff (x a b : Int) : inB x a b = true ↔ a ≤ x ∧ x ≤ b := by unfold inB; simp
theorem in_any (x a b : Int) (w : World) : Calls Tryd.prog 19 #[.int .i64 x, .int .i64 a, .int .i64 b] w fun e w' => e = .returned (.bool (inB x a b)) ∧ w' = w := by
  unfold inB
  by_cases h1 : a ≤ x
  · rw [decide_eq_true h1, Bool.true_and]
    go_enter Tryd.func19, Tryd.ntmps19
    go_wp2
    go_ret
    exact ⟨rfl, rfl⟩
  · rw [decide_eq_false h1, Bool.false_and]
    have h3 : decide (a ≤ x) = false := decide_eq_false h1
    go_enter Tryd.func19, Tryd.ntmps19
    go_wp2
    go_ret
    exact ⟨rfl, rfl⟩
theorem i64_and65535 (n : Int) : bits .and .i64 n 65535 = n % 65536 := by
  have h127 : (BitVec.ofInt 64 65535).toNat = 2 ^ 16 - 1 := by decide
  have key : (BitVec.ofInt 64 n &&& BitVec.ofInt 64 65535).toNat = (n % ((2 ^ 64 : Nat) : Int)).toNat % 2 ^ 16 := by
    rw [BitVec.toNat_and, BitVec.toNat_ofInt, h127, Nat.and_two_pow_sub_one_eq_mod]
  show IntKind.i64.wrap ((BitVec.ofInt 64 n &&& BitVec.ofInt 64 65535).toNat : Nat) = n % 65536
  rw [key, IntKind.wrap_i64]
  omega
theorem ret_int {k : IntKind} {a b : Int} (h : a = b) : Ending.returned (.int k a) = .returned (.int k b) := by rw [h]
theorem ret_bool {a b : Bool} (h : a = b) : Ending.returned (.bool a) = .returned (.bool b) := by rw [h]
theorem wrapI_any (n : Int) (w : World) : Calls Tryd.prog 77 #[.int .i64 n] w fun e w' => e = .returned (.int .i64 (n % 65536)) ∧ w' = w := by
  go_enter Tryd.func77, Tryd.ntmps77
  go_wp2
  go_ret
  exact ⟨ret_int (i64_and65535 n), rfl⟩
theorem wrapS_any (n : Int) (w : World) : Calls Tryd.prog 72 #[.int .i64 n] w fun e w' => e = .returned (.int .i64 (n % 65536)) ∧ w' = w := by
  go_enter Tryd.func72, Tryd.ntmps72
  go_wp2
  go_ret
  exact ⟨ret_int (i64_and65535 n), rfl⟩
theorem isWord_eq (n : Int) : (n == n % 65536) = inB n 0 65535 := by
  unfold inB
  rw [Bool.eq_iff_iff]
  simp
  omega
theorem isWord_any (n : Int) (w : World) : Calls Tryd.prog 96 #[.int .i64 n] w fun e w' => e = .returned (.bool (inB n 0 65535)) ∧ w' = w := by
  rw [← isWord_eq]
  obtain ⟨q, hq⟩ : ∃ q, n % 65536 = q := ⟨_, rfl⟩
  have W := hide (fun w => hq ▸ wrapI_any n w)
  rw [hq]
  clear hq
  go_enter Tryd.func96, Tryd.ntmps96
  go_wp2_with (go_at_call 77; refine (unhide W _).mono ?_; rintro e w' ⟨rfl, rfl⟩)
  go_ret
  exact ⟨rfl, rfl⟩
def bAt (xs : List UInt8) (i : Nat) : Int := ((xs.getD i 0).toNat : Int)
theorem bAt_bd (xs : List UInt8) (i : Nat) : 0 ≤ bAt xs i ∧ bAt xs i ≤ 255 := by
  unfold bAt
  have := (xs.getD i 0).toNat_lt
  omega
theorem sAt (s : ByteArray) (k : Nat) (h : k < s.size) : ((s[k]'h).toNat : Int) = bAt s.data.toList k := by
  unfold bAt
  rw [List.getD_eq_getElem?_getD, List.getElem?_eq_getElem (by simpa using h)]
  rfl
theorem str_ne {a b : ByteArray} (h : a ≠ b) : (a.toList == b.toList) = false := by
  rw [ByteArray.toList_eq, ByteArray.toList_eq]
  exact beq_eq_false_iff_ne.2 (fun e => h (bytes_inj e))
end Go.Proofs.YtmhcbehplhfgfaaDoor

namespace Go.Proofs.YtmhcbehplhfgfaaDoor
open Go.ChangeShapes Go.WideShapes Go.ChangeAt Go.RowKit
set_option linter.unusedVariables false
set_option maxRecDepth 8000


theorem i64_and7 (n : Int) : bits .and .i64 n 7 = n % 8 := by
  have h127 : (BitVec.ofInt 64 7).toNat = 2 ^ 3 - 1 := by decide
  have key : (BitVec.ofInt 64 n &&& BitVec.ofInt 64 7).toNat = (n % ((2 ^ 64 : Nat) : Int)).toNat % 2 ^ 3 := by
    rw [BitVec.toNat_and, BitVec.toNat_ofInt, h127, Nat.and_two_pow_sub_one_eq_mod]
  show IntKind.i64.wrap ((BitVec.ofInt 64 n &&& BitVec.ofInt 64 7).toNat : Nat) = n % 8
  rw [key, IntKind.wrap_i64]
  omega

theorem ret_str {a b : ByteArray} (h : a = b) : Ending.returned (.string a) = .returned (.string b) := by rw [h]

def dg (x : Nat) : UInt8 := UInt8.ofNat (48 + x)
/-- The digits to the base 8, in at most so many steps. -/
def octF : Nat → Nat → List UInt8
  | 0, n => [dg n]
  | k + 1, n => if n < 8 then [dg n] else octF k (n / 8) ++ [dg (n % 8)]
theorem octF_same (k : Nat) : ∀ j n, n ≤ k → n ≤ j → octF k n = octF j n := by
  induction k with
  | zero =>
    intro j n h1 h2
    obtain rfl : n = 0 := by omega
    cases j with
    | zero => rfl
    | succ j => rfl
  | succ k ih =>
    intro j n h1 h2
    cases j with
    | zero =>
      obtain rfl : n = 0 := by omega
      rfl
    | succ j =>
      show (if n < 8 then [dg n] else octF k (n / 8) ++ [dg (n % 8)]) = (if n < 8 then [dg n] else octF j (n / 8) ++ [dg (n % 8)])
      by_cases h : n < 8
      · rw [if_pos h, if_pos h]
      · rw [if_neg h, if_neg h, ih j (n / 8) (by omega) (by omega)]
/-- The digits to the base 8. -/
def octD (n : Nat) : List UInt8 := octF n n
theorem octD_step (n : Nat) : octD n = if n < 8 then [dg n] else octD (n / 8) ++ [dg (n % 8)] := by
  unfold octD
  rw [octF_same n (n + 1) n (Nat.le_refl _) (by omega)]
  show (if n < 8 then [dg n] else octF n (n / 8) ++ [dg (n % 8)]) = _
  rw [octF_same n (n / 8) (n / 8) (by omega) (Nat.le_refl _)]
theorem octD_small (n : Nat) (h : n < 8) : octD n = [dg n] := by rw [octD_step, if_pos h]
theorem octD_big (n : Nat) (h : ¬ n < 8) : octD n = octD (n / 8) ++ [dg (n % 8)] := by rw [octD_step, if_neg h]
def octP (n : Nat) : List UInt8 := if n < 8 then [] else octD (n / 8)
theorem octD_split (n : Nat) : octD n = octP n ++ [dg (n % 8)] := by
  unfold octP
  by_cases h : n < 8
  · rw [if_pos h, octD_small n h, Nat.mod_eq_of_lt h]; rfl
  · rw [if_neg h, octD_big n h]
theorem octD_len (n : Nat) : ∀ k, n < 8 ^ (k + 1) → (octD n).length ≤ k + 1 := by
  intro k
  induction k generalizing n with
  | zero => intro h; rw [octD_small n (by omega)]; simp
  | succ k ih =>
    intro h
    by_cases h8 : n < 8
    · rw [octD_small n h8]; simp
    · rw [octD_big n h8, List.length_append]
      have := ih (n / 8) (by rw [Nat.pow_succ] at h; omega)
      simp; omega

def strOf (l : List UInt8) : ByteArray := ⟨l.toArray⟩

theorem strOf_size (l : List UInt8) : (strOf l).size = l.length := by show l.toArray.size = _; simp
theorem strOf_list (l : List UInt8) : (strOf l).data.toList = l := by simp [strOf]
theorem strOf_of (s : ByteArray) : strOf s.data.toList = s := by apply ByteArray.ext; simp [strOf]
theorem strOf_append (a b : List UInt8) : strOf a ++ strOf b = strOf (a ++ b) := by apply ByteArray.ext; show (strOf a ++ strOf b).data = _; rw [ByteArray.data_append]; simp [strOf]

theorem one_conv (W : World) (d : Nat) (hd : d < 8) (x : Int) (hx : x = 48 + (d : Int)) (b : Nat) (hb : b = W.heap.size) : (convert 98 9 (.slice (some ⟨b, 0, none⟩) 1 1)).run Tryd.prog (W.alloc (.cells #[.int .u8 x] 5)) = .ok (.string (strOf [dg d])) (W.alloc (.cells #[.int .u8 x] 5)) := by
  subst hb
  exact run_convert_bytes_back (P := Tryd.prog) (W.alloc (.cells #[.int .u8 x] 5)) 98 9 5 ⟨W.heap.size, 0, none⟩ 1 [dg d] Tryd.underlying98 Tryd.underlying5 Tryd.underlying9 (fun j hj => by
    obtain rfl : j = 0 := by simp at hj; omega
    have e : ((dg d).toNat : Int) = x := by unfold dg; simp; omega
    simp only [List.getElem_cons_zero, e]
    simp [Addr.add])

set_option maxHeartbeats 400000 in
theorem octS_any (n : Int) (w : World) : Calls Tryd.prog 50 #[.int .i64 n] w fun e w' => e = .returned (.string (strOf (octD (n % 65536).toNat))) ∧ Below w.heap.size w w' := by
  obtain ⟨N, hN⟩ := Int.eq_ofNat_of_zero_le (Int.emod_nonneg n (show (65536 : Int) ≠ 0 by omega))
  have hlt : N < 65536 := by have := Int.emod_lt_of_pos n (show (0 : Int) < 65536 by omega); omega
  rw [hN, Int.toNat_natCast]
  have h7 := i64_and7 N
  have hc := one_conv w (N % 8) (by omega) (48 + (N : Int) % 8) (by omega)
  have HN := hide hN
  clear hN
  go_enter Tryd.func50, Tryd.ntmps50
  go_wp2_with fail
  refine (wrapS_any n w).mono ?_
  rintro e w' ⟨he, hw'⟩
  rw [unhide HN] at he
  rw [hw', he]
  clear hw' he w'
  go_wp2
  clear h7 hc
  go_loopw [0, 3] (fun i s wr => ∃ (m : Nat) (t : List UInt8), m < 65536 ∧ t.length ≤ 6 ∧ i = .int .i64 m ∧ s = .string (strOf t) ∧ Hid (octD N = octP m ++ t) ∧ Below w.heap.size w wr) (fun i _ _ => (intOf i).toNat)
  case atStart => exact ⟨N, [dg (N % 8)], hlt, by simp, rfl, rfl, octD_split N, (Below.refl _ _).alloc (Nat.le_refl _) _⟩
  case round =>
    obtain ⟨m, t, hm, ht, rfl, rfl, hsp, hbel⟩ := hrel
    by_cases h8 : m < 8
    · go_wp2
      go_ret
      refine ⟨ret_str ?_, hbel⟩
      rw [hsp.out, octP, if_pos h8, List.nil_append]
    · have h7 := i64_and7 ((m : Int) / 8)
      have hc := one_conv wr (m / 8 % 8) (by omega) (48 + (m : Int) / 8 % 8) (by omega)
      have hsz : (strOf t).size ≤ 6 := by rw [strOf_size]; exact ht
      have hsz1 := strOf_size [dg (m / 8 % 8)]
      go_wp2
      have hsp' : octD N = octP (m / 8) ++ (dg (m / 8 % 8) :: t) := by
        have h1 := hsp.out
        rw [octP, if_neg h8, octD_split (m / 8)] at h1
        rw [h1]; simp
      have hlen : (dg (m / 8 % 8) :: t).length ≤ 6 := by
        have h2 := octD_len N 5 (by omega)
        rw [hsp', List.length_append] at h2
        omega
      go_roundw
      case rel => exact ⟨m / 8, dg (m / 8 % 8) :: t, by omega, hlen, by go_num, by rw [strOf_append]; rfl, hsp', hbel.alloc hbel.size _⟩
      case measure => simp [intOf]; omega

theorem pow2_any (w : World) : Calls Tryd.prog 109 #[.int .i64 8] w fun e w' => e = .returned (.bool true) ∧ w' = w := by
  have h : bits BinOp.and IntKind.i64 8 7 = 0 := by decide +kernel
  go_enter Tryd.func109, Tryd.ntmps109
  go_wp2
  go_ret
  exact ⟨rfl, rfl⟩

theorem tz_num : IntKind.u64.wrap (bits BinOp.and IntKind.u64 8 (IntKind.u64.wrap (-8)) * 285870213051353865) / 288230376151711744 = 7 := by decide +kernel

set_option maxHeartbeats 400000 in
theorem tz_any (w : World) (hg : w.cell? ⟨7, 7, none⟩ = some (.int .u8 3)) : Calls Tryd.prog 110 #[.int .u64 8] w fun e w' => e = .returned (.int .i64 3) ∧ w' = w := by
  have hm := tz_num
  go_enter Tryd.func110, Tryd.ntmps110
  go_wp2
  go_ret
  exact ⟨rfl, rfl⟩



def bOf (xs : List UInt8) (i : Nat) : Int := ((xs.getD i 0).toNat : Int)
/-- The last bytes of the row: noughts, then t. -/
def tail65 (t : List UInt8) (p j : Nat) : Value := if j < p then .int .u8 0 else .int .u8 (bOf t (j - p))
theorem u64_and7 (m : Nat) (hm : m < 65536) : bits .and .u64 (m : Int) 7 = ((m % 8 : Nat) : Int) := by
  have := bits_mask .u64 63 (by decide) (fun n a b => by rw [IntKind.wrap_u64]; omega) 3 (by decide) (m : Int) (by omega) (by omega)
  have e : (2 : Int) ^ 3 - 1 = 7 := by decide
  rw [e] at this
  rw [this]
  omega

def z65 : Array Value := (List.replicate 65 (Value.int .u8 0)).toArray
theorem z65_size : z65.size = 65 := by unfold z65; rw [List.size_toArray, List.length_replicate]
theorem z65_get (i : Nat) (h : i < 65) : z65[i]? = some (Value.int .u8 0) := by unfold z65; rw [List.getElem?_toArray, List.getElem?_replicate, if_pos h]
theorem row65 (w : World) : (w.alloc (Obj.cells z65 159)).rowIs w.heap.size 159 65 (tail65 [] 65) := by
  have h := World.rowIs_alloc w z65 159 (fun _ => .int .u8 0) (fun i hi => z65_get i (by rw [z65_size] at hi; exact hi))
  rw [z65_size] at h
  exact h.congr (fun j hj => by simp [tail65, hj])
theorem zero65 (w : World) : (zeroValue 159).run Tryd.prog w = .ok (.agg z65) w := by kernel_rfl

theorem digit_at (d : Nat) (h8 : d < 8) : ∀ h, (({ data := #[48, 49, 50, 51, 52, 53, 54, 55, 56, 57, 97, 98, 99, 100, 101, 102, 103, 104, 105, 106, 107, 108, 109, 110, 111, 112, 113, 114, 115, 116, 117, 118, 119, 120, 121, 122] } : ByteArray)[d]'h).toNat = 48 + d := by
  match d, h8 with
  | 0, _ => intro h; rfl
  | 1, _ => intro h; rfl
  | 2, _ => intro h; rfl
  | 3, _ => intro h; rfl
  | 4, _ => intro h; rfl
  | 5, _ => intro h; rfl
  | 6, _ => intro h; rfl
  | 7, _ => intro h; rfl
theorem dg_val (d : Nat) (h : d < 8) : ((dg d).toNat : Int) = 48 + d := by unfold dg; simp; omega

theorem tail_step {W : World} {b p : Nat} {t : List UInt8} (h : W.rowIs b 159 65 (tail65 t p)) (hp1 : 1 ≤ p) (d : Nat) (hd : d < 8) (x : Int) (hx : x = 48 + (d : Int)) : (W.setCell ⟨b, p - 1, none⟩ (.int .u8 x)).rowIs b 159 65 (tail65 (dg d :: t) (p - 1)) := by
  refine (h.set (p - 1) (.int .u8 x)).congr (fun j hj => ?_)
  by_cases e : j = p - 1
  · subst e
    rw [if_pos rfl]
    unfold tail65
    rw [if_neg (by omega), Nat.sub_self]
    have : bOf (dg d :: t) 0 = x := by rw [hx, ← dg_val d hd]; rfl
    rw [this]
  · rw [if_neg e]
    unfold tail65
    by_cases e2 : j < p - 1
    · rw [if_pos (by omega), if_pos e2]
    · rw [if_neg (by omega), if_neg e2]
      have : j - (p - 1) = (j - p) + 1 := by omega
      rw [this]
      rfl

theorem tail_conv {W : World} {b p : Nat} {t : List UInt8} (h : W.rowIs b 159 65 (tail65 t p)) (hp : p + t.length = 65) (n c : Nat) (hn : n = t.length) : (convert 98 9 (.slice (some ⟨b, p, none⟩) n c)).run Tryd.prog W = .ok (.string (strOf t)) W := by
  subst hn
  exact run_convert_bytes_back (P := Tryd.prog) W 98 9 5 ⟨b, p, none⟩ c t Tryd.underlying98 Tryd.underlying5 Tryd.underlying9 (fun j hj => by
    have h2 := h.cell (i := p + j) (by omega)
    unfold tail65 at h2
    rw [if_neg (by omega), Nat.add_sub_cancel_left] at h2
    have e : bOf t j = (t[j].toNat : Int) := by unfold bOf; rw [List.getD_eq_getElem?_getD, List.getElem?_eq_getElem hj]; rfl
    rw [e] at h2
    unfold Addr.add
    by_cases h0 : j = 0
    · subst h0; simpa using h2
    · simpa [h0] using h2)

theorem slice65 (b p : Nat) (h1 : 1 ≤ p) (h2 : p ≤ 65) (W : World) : (Instr.sliceAt 159 (.pointer (some ⟨b, 0, none⟩)) (some (.int .i64 ((p : Int) - 1))) none none).run Tryd.prog W = .ok (.slice (some ⟨b, p - 1, none⟩) (65 - (p - 1)) (65 - (p - 1))) W := by
  have hal : Tryd.prog.arrayLen 159 = 65 := by simp [Program.arrayLen, Tryd.underlying159]
  rw [run_sliceAt_array_l W 159 ⟨b, 0, none⟩ (by simp [Program.arrayLen, Program.elem, Tryd.underlying159]) .i64 ((p : Int) - 1) (by omega) (by rw [hal]; omega)]
  have e : ((p : Int) - 1).toNat = p - 1 := by omega
  have hne : ¬ 65 = p - 1 := by omega
  rw [hal, e]
  go_simp

set_option maxHeartbeats 1000000 in
theorem fmtBits_any (N : Nat) (hN : N < 65536) (w : World) (hg : w.cell? ⟨7, 7, none⟩ = some (.int .u8 3)) :
    Calls Tryd.prog 102 #[.slice none 0 0, .int .u64 N, .int .i64 8, .bool false, .bool false] w fun e w' => e = .returned (.tuple #[.slice none 0 0, .string (strOf (octD N))]) ∧ Below w.heap.size w w' := by
  have hlt := World.block_lt_of_cell? w _ hg
  have hlt4 : 7 < w.heap.size := hlt
  have HG : ∀ o, (w.alloc o).cell? ⟨7, 7, none⟩ = some (.int .u8 3) := fun o => by rw [World.cell?_alloc_past _ _ _ hlt4]; exact hg
  have HG' := hide HG
  clear HG hg hlt
  have hz := zero65
  go_enter Tryd.func102, Tryd.ntmps102
  go_wp2_with (first | (go_at_call 109; refine (pow2_any _).mono ?_; rintro e w' ⟨rfl, hw'⟩; rw [hw']; clear hw' w') | (go_at_call 110; refine (tz_any _ (by exact unhide HG' _)).mono ?_; rintro e w' ⟨rfl, hw'⟩; rw [hw']; clear hw' w'))
  have R0' := hide (row65 w)
  clear hz
  go_loopw [1, 13] (fun u i wr => ∃ (m : Nat) (t : List UInt8) (p : Nat), m < 65536 ∧ p + t.length = 65 ∧ t.length ≤ 6 ∧ u = .int .u64 m ∧ i = .int .i64 p ∧ Hid (octD N = octD m ++ t) ∧ wr.rowIs w.heap.size 159 65 (tail65 t p) ∧ Below w.heap.size w wr) (fun u _ _ => (intOf u).toNat)
  case atStart => exact ⟨N, [], 65, hN, rfl, by simp, rfl, rfl, by show octD N = _; simp, unhide R0', (Below.refl _ _).alloc (Nat.le_refl _) _⟩
  case round =>
    obtain ⟨m, t, p, hm, hp, ht, rfl, rfl, hsp, hrow, hbel⟩ := hrel
    clear R0'
    have hp1 : 59 ≤ p := by omega
    by_cases h8 : m < 8
    · have hdig := digit_at m h8
      have hfz := hrow.frozen (p - 1)
      have hco := hrow.cell (i := p - 1) (by omega)
      have R1 := tail_step hrow (by omega) m h8 (48 + (m : Int)) rfl
      have hcv := tail_conv R1 (by rw [List.length_cons]; omega) (65 - (p - 1)) (65 - (p - 1)) (by rw [List.length_cons]; omega)
      have hsl := slice65 w.heap.size p (by omega) (by omega)
      have R1' := hide R1
      clear R1 hrow
      go_wp2
      go_ret2
      refine ⟨?_, hbel.setCell (p := ⟨w.heap.size, p - 1, none⟩) (Nat.le_refl _) _⟩
      rw [hsp.out, octD_small m h8]
      rfl
    · have h7 := u64_and7 m hm
      have hdig := digit_at (m % 8) (by omega)
      have hfz := hrow.frozen (p - 1)
      have hco := hrow.cell (i := p - 1) (by omega)
      have R1 := hide (tail_step hrow (by omega) (m % 8) (by omega) (48 + (m : Int) % 8) (by omega))
      have hsp' : octD N = octD (m / 8) ++ (dg (m % 8) :: t) := by
        have h1 := hsp.out
        rw [octD_big m h8] at h1
        rw [h1]; simp
      have hlen : (dg (m % 8) :: t).length ≤ 6 := by
        have h2 := octD_len N 5 (by omega)
        rw [hsp', List.length_append] at h2
        omega
      have HS := hide hsp'
      have HL := hide hlen
      clear hrow hsp' hlen
      go_wp2
      go_roundw
      case rel => exact ⟨m / 8, dg (m % 8) :: t, p - 1, by omega, by rw [List.length_cons]; omega, unhide HL, by go_num, by go_num, unhide HS, unhide R1, hbel.setCell (p := ⟨w.heap.size, p - 1, none⟩) (Nat.le_refl _) _⟩
      case measure => simp [intOf]; omega



set_option maxHeartbeats 400000 in
theorem fmtInt_any (N : Nat) (hN : N < 65536) (w : World) (hg : w.cell? ⟨7, 7, none⟩ = some (.int .u8 3)) :
    Calls Tryd.prog 91 #[.int .i64 N, .int .i64 8] w fun e w' => e = .returned (.string (strOf (octD N))) ∧ Below w.heap.size w w' := by
  have H := hide (fmtBits_any N hN w hg)
  clear hg
  go_enter Tryd.func91, Tryd.ntmps91
  go_wp2_with fail
  refine (unhide H).mono ?_
  rintro e w1 ⟨rfl, hb⟩
  go_wp2
  go_ret
  exact ⟨rfl, hb⟩

set_option maxHeartbeats 400000 in
theorem octI_any (n : Int) (w : World) (hg : w.cell? ⟨7, 7, none⟩ = some (.int .u8 3)) :
    Calls Tryd.prog 57 #[.int .i64 n] w fun e w' => e = .returned (.string (strOf (octD (n % 65536).toNat))) ∧ Below w.heap.size w w' := by
  obtain ⟨N, hN⟩ := Int.eq_ofNat_of_zero_le (Int.emod_nonneg n (show (65536 : Int) ≠ 0 by omega))
  have hlt : N < 65536 := by have := Int.emod_lt_of_pos n (show (0 : Int) < 65536 by omega); omega
  rw [hN, Int.toNat_natCast]
  have HN := hide hN
  have H := hide (fmtInt_any N hlt w hg)
  clear hN hg
  go_enter Tryd.func57, Tryd.ntmps57
  go_wp2_with fail
  refine (wrapI_any n w).mono ?_
  rintro e w' ⟨he, hw'⟩
  rw [unhide HN] at he
  rw [hw', he]
  clear hw' he w'
  go_wp2_with (first | (go_at_call 91; refine (unhide H).mono ?_; rintro e w1 ⟨rfl, hb⟩) | go_in)
  go_ret
  exact ⟨rfl, hb⟩

end Go.Proofs.YtmhcbehplhfgfaaDoor

namespace Go.Proofs.YtmhcbehplhfgfaaDoor
open Go.ChangeShapes Go.WideShapes Go.ChangeAt Go.RowKit
set_option linter.unusedVariables false
set_option maxRecDepth 8000

def smB (c : Int) : Bool := inB c 97 122
def dgB (c : Int) : Bool := inB c 48 57
def ldB (c : Int) : Bool := smB c || dgB c
def blB (c : Int) : Bool := c == 32 || c == 9

theorem smI_any (c : Int) (w : World) : Calls Tryd.prog 97 #[.int .u8 c] w fun e w' => e = .returned (.bool (smB c)) ∧ w' = w := by
  unfold smB inB
  cases h : decide (97 ≤ c)
  · go_enter Tryd.func97, Tryd.ntmps97
    go_wp2
    go_ret
    exact ⟨rfl, rfl⟩
  · go_enter Tryd.func97, Tryd.ntmps97
    go_wp2
    go_ret
    exact ⟨rfl, rfl⟩
theorem dgI_any (c : Int) (w : World) : Calls Tryd.prog 105 #[.int .u8 c] w fun e w' => e = .returned (.bool (dgB c)) ∧ w' = w := by
  unfold dgB inB
  cases h : decide (48 ≤ c)
  · go_enter Tryd.func105, Tryd.ntmps105
    go_wp2
    go_ret
    exact ⟨rfl, rfl⟩
  · go_enter Tryd.func105, Tryd.ntmps105
    go_wp2
    go_ret
    exact ⟨rfl, rfl⟩
theorem ldI_any (c : Int) (w : World) : Calls Tryd.prog 98 #[.int .u8 c] w fun e w' => e = .returned (.bool (ldB c)) ∧ w' = w := by
  have H1 := hide (fun w => smI_any c w)
  have H2 := hide (fun w => dgI_any c w)
  unfold ldB
  generalize smB c = a at *
  generalize dgB c = b at *
  cases a
  · go_enter Tryd.func98, Tryd.ntmps98
    go_wp2_with (first | (go_at_call 97; refine (unhide H1 _).mono ?_; rintro e w' ⟨rfl, rfl⟩) | (go_at_call 105; refine (unhide H2 _).mono ?_; rintro e w' ⟨rfl, rfl⟩))
    go_ret
    exact ⟨rfl, rfl⟩
  · go_enter Tryd.func98, Tryd.ntmps98
    go_wp2_with (first | (go_at_call 97; refine (unhide H1 _).mono ?_; rintro e w' ⟨rfl, rfl⟩) | (go_at_call 105; refine (unhide H2 _).mono ?_; rintro e w' ⟨rfl, rfl⟩))
    go_ret
    exact ⟨rfl, rfl⟩
theorem smS_any (c : Int) (w : World) (h0 : 0 ≤ c) (h1 : c ≤ 255) : Calls Tryd.prog 66 #[.int .u8 c] w fun e w' => e = .returned (.bool (smB c)) ∧ w' = w := by
  unfold smB
  go_enter Tryd.func66, Tryd.ntmps66
  go_wp2_with (go_at_call 19; refine (in_any _ _ _ _).mono ?_; rintro e w' ⟨rfl, rfl⟩)
  go_ret
  exact ⟨rfl, rfl⟩
theorem dgS_any (c : Int) (w : World) (h0 : 0 ≤ c) (h1 : c ≤ 255) : Calls Tryd.prog 67 #[.int .u8 c] w fun e w' => e = .returned (.bool (dgB c)) ∧ w' = w := by
  unfold dgB
  go_enter Tryd.func67, Tryd.ntmps67
  go_wp2_with (go_at_call 19; refine (in_any _ _ _ _).mono ?_; rintro e w' ⟨rfl, rfl⟩)
  go_ret
  exact ⟨rfl, rfl⟩

/-- May this byte stand in a name's form? -/
def okAt (l : List UInt8) (i : Nat) : Bool := smB (bAt l i) || (decide (0 < i) && dgB (bAt l i))
/-- Has a text a name's form? -/
def formB (l : List UInt8) : Bool := (List.range l.length).all (okAt l) && inB l.length 1 6
theorem formB_no {l : List UInt8} {k : Nat} (h : k < l.length) (hk : okAt l k = false) : formB l = false := by
  unfold formB
  have : (List.range l.length).all (okAt l) = false := by
    rw [List.all_eq_false]
    exact ⟨k, List.mem_range.2 h, by rw [hk]; decide⟩
  rw [this, Bool.false_and]
theorem formB_all {l : List UInt8} (h : ∀ k, k < l.length → okAt l k = true) : formB l = inB l.length 1 6 := by
  unfold formB
  have : (List.range l.length).all (okAt l) = true := by
    rw [List.all_eq_true]
    exact fun k hk => h k (List.mem_range.1 hk)
  rw [this, Bool.true_and]
theorem formB_len {l : List UInt8} (h : ¬ (1 ≤ l.length ∧ l.length ≤ 6)) : formB l = false := by
  unfold formB
  rw [inB_f _ _ _ (by omega), Bool.and_false]
theorem size_len (s : ByteArray) : s.data.toList.length = s.size := by simp
theorem empty_of (s : ByteArray) (h : s.size = 0) : s = ⟨#[]⟩ := by apply ByteArray.ext; exact Array.eq_empty_of_size_eq_zero h
theorem emp_no (s : ByteArray) (h : s.size ≠ 0) : s.toList.isEmpty = false := by
  rw [← decide_eq_emptyBytes]
  exact decide_eq_false (fun e => h (by rw [e]; rfl))

set_option maxHeartbeats 400000 in
theorem formS_any (s : ByteArray) (w : World) (hmax : s.size ≤ 1099511627776) : Calls Tryd.prog 42 #[.string s] w fun e w' => e = .returned (.bool (formB s.data.toList)) ∧ w' = w := by
  have hl := size_len s
  obtain ⟨q, hq⟩ : ∃ q, formB s.data.toList = q := ⟨_, rfl⟩
  have NO := hide (fun k hk h => (formB_no (l := s.data.toList) (k := k) hk h).symm.trans hq)
  have YES := hide (fun h => (formB_all (l := s.data.toList) h).symm.trans hq)
  rw [hl] at NO YES
  rw [hq]
  clear hq
  go_enter Tryd.func42, Tryd.ntmps42
  go_wp2
  go_loop [3] (fun i => ∃ k : Nat, i = .int .i64 k ∧ k ≤ s.size ∧ Hid (∀ j, j < k → okAt s.data.toList j = true)) (fun i => s.size - (intOf i).toNat)
  case atStart => exact ⟨0, rfl, by omega, fun j hj => by omega⟩
  case round =>
    obtain ⟨k, rfl, hk, hd⟩ := hrel
    by_cases hlt : k < s.size
    · have he := sAt s k hlt
      have hbd := bAt_bd s.data.toList k
      have N1 := hide (unhide NO k hlt)
      have hd1 : okAt s.data.toList k = true → ∀ j, j < k + 1 → okAt s.data.toList j = true := fun h j hj => by
        by_cases e : j = k
        · subst e; exact h
        · exact hd.out j (by omega)
      have HD := hide hd1
      have S1 := hide (fun w => smS_any (bAt s.data.toList k) w hbd.1 hbd.2)
      have D1 := hide (fun w => dgS_any (bAt s.data.toList k) w hbd.1 hbd.2)
      have OK := hide (show okAt s.data.toList k = (smB (bAt s.data.toList k) || (decide (0 < k) && dgB (bAt s.data.toList k))) from rfl)
      generalize smB (bAt s.data.toList k) = p at S1 OK
      generalize dgB (bAt s.data.toList k) = r at D1 OK
      generalize bAt s.data.toList k = c at he hbd S1 D1
      clear hd hd1
      cases p
      · by_cases hz : k = 0
        · subst hz
          have E := hide (unhide N1 (by rw [unhide OK]; rfl))
          go_wp2_with (first | (go_at_call 66; refine (unhide S1 _).mono ?_; rintro e w' ⟨rfl, rfl⟩) | (go_at_call 67; refine (unhide D1 _).mono ?_; rintro e w' ⟨rfl, rfl⟩))
          go_ret
          exact ⟨by rw [← unhide E]; rfl, rfl⟩
        · have hz1 : ((k : Int) == 0) = false := beq_eq_false_iff_ne.2 (by omega)
          cases r
          · have E := hide (unhide N1 (by rw [unhide OK]; simp))
            go_wp2_with (first | (go_at_call 66; refine (unhide S1 _).mono ?_; rintro e w' ⟨rfl, rfl⟩) | (go_at_call 67; refine (unhide D1 _).mono ?_; rintro e w' ⟨rfl, rfl⟩))
            go_ret
            exact ⟨by rw [← unhide E]; rfl, rfl⟩
          · have E := hide (unhide HD (by rw [unhide OK]; simp; omega))
            go_wp2_with (first | (go_at_call 66; refine (unhide S1 _).mono ?_; rintro e w' ⟨rfl, rfl⟩) | (go_at_call 67; refine (unhide D1 _).mono ?_; rintro e w' ⟨rfl, rfl⟩))
            go_round
            case rel => exact ⟨k + 1, by go_num, by omega, unhide E⟩
            case measure => simp [intOf]; omega
      · have E := hide (unhide HD (by rw [unhide OK]; rfl))
        go_wp2_with (first | (go_at_call 66; refine (unhide S1 _).mono ?_; rintro e w' ⟨rfl, rfl⟩) | (go_at_call 67; refine (unhide D1 _).mono ?_; rintro e w' ⟨rfl, rfl⟩))
        go_round
        case rel => exact ⟨k + 1, by go_num, by omega, unhide E⟩
        case measure => simp [intOf]; omega
    · have E := hide (unhide YES (fun j hj => hd.out j (by omega)))
      clear hd
      go_wp2_with (go_at_call 19; refine (in_any _ _ _ _).mono ?_; rintro e w' ⟨rfl, rfl⟩)
      go_ret
      exact ⟨by rw [← unhide E]; rfl, rfl⟩

set_option maxHeartbeats 400000 in
theorem formI_any (s : ByteArray) (w : World) (hmax : s.size ≤ 1099511627776) : Calls Tryd.prog 87 #[.string s] w fun e w' => e = .returned (.bool (formB s.data.toList)) ∧ w' = w := by
  by_cases h0 : s.size = 0
  · obtain rfl := empty_of s h0
    have E := hide (show false = formB (ByteArray.mk #[]).data.toList by decide)
    rw [← unhide E]
    go_enter Tryd.func87, Tryd.ntmps87
    go_wp2
    go_ret
    exact ⟨rfl, rfl⟩
  · have hl := size_len s
    have hemp := emp_no s h0
    by_cases h6 : 6 < s.size
    · have E := hide (formB_len (l := s.data.toList) (by omega))
      rw [unhide E]
      go_enter Tryd.func87, Tryd.ntmps87
      go_wp2
      go_ret
      exact ⟨rfl, rfl⟩
    · have h6d : decide ((6 : Int) < (s.size : Int)) = false := by simp; omega
      have hlt0 : 0 < s.size := by omega
      have he := sAt s 0 hlt0
      have hbd := bAt_bd s.data.toList 0
      have S0 := hide (fun w => smI_any (bAt s.data.toList 0) w)
      have OK0 := hide (show okAt s.data.toList 0 = smB (bAt s.data.toList 0) by unfold okAt; simp)
      obtain ⟨q, hq⟩ : ∃ q, formB s.data.toList = q := ⟨_, rfl⟩
      have NO := hide (fun k hk h => (formB_no (l := s.data.toList) (k := k) hk h).symm.trans hq)
      have YES := hide (fun h => (formB_all (l := s.data.toList) h).symm.trans hq)
      rw [hl] at NO YES
      have IN := hide (show inB (s.size : Int) 1 6 = true from inB_t _ _ _ (by omega) (by omega))
      rw [hq]
      clear hq
      generalize smB (bAt s.data.toList 0) = p at S0 OK0
      have HE := hide he
      generalize bAt s.data.toList 0 = c0 at he hbd S0
      cases p
      · have E := hide (unhide NO 0 hlt0 (unhide OK0))
        go_enter Tryd.func87, Tryd.ntmps87
        go_wp2_with (go_at_call 97; refine (unhide S0 _).mono ?_; rintro e w' ⟨rfl, rfl⟩)
        go_ret
        exact ⟨by rw [← unhide E]; rfl, rfl⟩
      · go_enter Tryd.func87, Tryd.ntmps87
        go_wp2_with (go_at_call 97; refine (unhide S0 _).mono ?_; rintro e w' ⟨rfl, rfl⟩)
        clear he hbd S0
        go_loop [19] (fun i => ∃ k : Nat, i = .int .i64 k ∧ k ≤ s.size ∧ Hid (∀ j, j < k → okAt s.data.toList j = true)) (fun i => s.size - (intOf i).toNat)
        case atStart => exact ⟨0, rfl, by omega, fun j hj => by omega⟩
        case round =>
          obtain ⟨k, rfl, hk, hd⟩ := hrel
          by_cases hlt : k < s.size
          · have he := sAt s k hlt
            have hbd := bAt_bd s.data.toList k
            have N1 := hide (unhide NO k hlt)
            have hd1 : ldB (bAt s.data.toList k) = true → ∀ j, j < k + 1 → okAt s.data.toList j = true := fun h j hj => by
              by_cases e : j = k
              · subst e
                by_cases hz : j = 0
                · subst hz; exact unhide OK0
                · unfold okAt; rw [decide_eq_true (by omega), Bool.true_and]; exact h
              · exact hd.out j (by omega)
            have HD := hide hd1
            have L1 := hide (fun w => ldI_any (bAt s.data.toList k) w)
            have OK := hide (show ldB (bAt s.data.toList k) = false → okAt s.data.toList k = false from fun h => by
              unfold ldB at h
              rw [Bool.or_eq_false_iff] at h
              unfold okAt
              rw [h.1, h.2]; simp)
            generalize ldB (bAt s.data.toList k) = p at L1 OK HD
            generalize bAt s.data.toList k = c at he hbd L1
            clear hd hd1
            cases p
            · have E := hide (unhide N1 (unhide OK rfl))
              go_wp2_with (go_at_call 98; refine (unhide L1 _).mono ?_; rintro e w' ⟨rfl, rfl⟩)
              go_ret
              exact ⟨by rw [← unhide E]; rfl, rfl⟩
            · have HE2 := hide (unhide HD rfl)
              go_wp2_with (go_at_call 98; refine (unhide L1 _).mono ?_; rintro e w' ⟨rfl, rfl⟩)
              go_round
              case rel => exact ⟨k + 1, by go_num, by omega, unhide HE2⟩
              case measure => simp [intOf]; omega
          · have E := hide ((unhide IN).symm.trans (unhide YES (fun j hj => hd.out j (by omega))))
            clear hd
            go_wp2
            go_ret
            exact ⟨by rw [← unhide E]; rfl, rfl⟩
end Go.Proofs.YtmhcbehplhfgfaaDoor

namespace Go.Proofs.YtmhcbehplhfgfaaDoor
open Go.ChangeShapes Go.WideShapes Go.ChangeAt Go.RowKit
set_option linter.unusedVariables false
set_option maxRecDepth 8000

theorem wpList_index_at {P : Program} {ops : Array Oper} {rest : List Oper} {o : Oper} {a : Act} {w : World} {Q : Exit → Act → World → Prop} (hgd : o.guard = none) (xt : TypeId) (x ix : Operand) (ho : o.op = .index xt x ix) (cs : Array Value) (i : Int) (v : Value)
    (hx : a.eval x = .agg cs) (hi : a.eval ix = .int .i64 i) (hr : ∀ w, (Instr.index xt (.agg cs) (.int .i64 i)).run P w = .ok v w) (h : wpList P ops Q rest (a.put o.dst v) w) : wpList P ops Q (o :: rest) a w :=
  wpList_plain hgd fun _ hK => by
    unfold Oper.wp execOp
    simp only [ho, hx, hi, hr, Sem.run_bind, Sem.run_pure, Result.andThen_ok]
    exact hK _ _ h

def eqS (a b : ByteArray) : Bool := a.toList == b.toList
theorem eqS_iff (a b : ByteArray) : eqS a b = true ↔ a = b := by
  unfold eqS
  rw [ByteArray.toList_eq, ByteArray.toList_eq]
  exact ⟨fun h => bytes_inj (eq_of_beq h), fun h => by rw [h]; exact beq_self_eq_true _⟩
def E0 : ByteArray := ⟨#[]⟩
/-- Is a text among these? -/
def hasS (L : List ByteArray) (s : ByteArray) : Bool := L.any (fun t => eqS t s)
theorem hasS_hit {L : List ByteArray} {s : ByteArray} {k : Nat} (h : k < L.length) (he : eqS (L.getD k E0) s = true) : hasS L s = true := by
  unfold hasS
  rw [List.any_eq_true]
  refine ⟨L[k], List.getElem_mem _, ?_⟩
  rw [List.getD_eq_getElem?_getD, List.getElem?_eq_getElem h] at he
  exact he
theorem hasS_miss {L : List ByteArray} {s : ByteArray} (h : ∀ k, k < L.length → eqS (L.getD k E0) s = false) : hasS L s = false := by
  unfold hasS
  rw [List.any_eq_false]
  intro t ht
  obtain ⟨k, hk, rfl⟩ := List.getElem_of_mem ht
  have := h k hk
  rw [List.getD_eq_getElem?_getD, List.getElem?_eq_getElem hk] at this
  simp only [Option.getD_some] at this
  rw [this]
  decide
theorem hasS_iff {L : List ByteArray} {s : ByteArray} : hasS L s = true ↔ s ∈ L := by
  unfold hasS
  rw [List.any_eq_true]
  constructor
  · rintro ⟨t, ht, he⟩
    rw [eqS_iff] at he
    exact he ▸ ht
  · exact fun h => ⟨s, h, (eqS_iff _ _).2 rfl⟩

def wOp : List ByteArray := [⟨#[109, 111, 118]⟩, ⟨#[99, 109, 112]⟩, ⟨#[98, 105, 99]⟩, ⟨#[98, 105, 115]⟩, ⟨#[97, 100, 100]⟩, ⟨#[115, 117, 98]⟩, ⟨#[99, 108, 114]⟩, ⟨#[105, 110, 99]⟩, ⟨#[100, 101, 99]⟩, ⟨#[110, 101, 103]⟩, ⟨#[116, 115, 116]⟩, ⟨#[97, 115, 114]⟩, ⟨#[97, 115, 108]⟩, ⟨#[106, 109, 112]⟩, ⟨#[106, 115, 114]⟩, ⟨#[114, 116, 115]⟩, ⟨#[98, 114]⟩, ⟨#[98, 110, 101]⟩, ⟨#[98, 101, 113]⟩, ⟨#[98, 103, 101]⟩, ⟨#[98, 108, 116]⟩, ⟨#[104, 97, 108, 116]⟩, ⟨#[101, 109, 116]⟩]
def wRg : List ByteArray := [⟨#[114, 48]⟩, ⟨#[114, 49]⟩, ⟨#[114, 50]⟩, ⟨#[114, 51]⟩, ⟨#[114, 52]⟩, ⟨#[114, 53]⟩, ⟨#[115, 112]⟩, ⟨#[112, 99]⟩]
def opL : List ByteArray := E0 :: wOp
def keptL : List ByteArray := wOp ++ wRg
/-- Is a text a kept word? -/
def keptB (s : ByteArray) : Bool := hasS keptL s
theorem keptB_op {s : ByteArray} (h0 : s.size ≠ 0) {k : Nat} (hk : k < 24) (he : eqS (opL.getD k E0) s = true) : keptB s = true := by
  have h1 : s ∈ opL := hasS_iff.1 (hasS_hit (L := opL) hk he)
  unfold keptB
  rw [hasS_iff]
  unfold opL at h1
  rcases List.mem_cons.1 h1 with e | h
  · rw [e] at h0; exact absurd rfl h0
  · exact List.mem_append_left _ h
theorem keptB_rg {s : ByteArray} {k : Nat} (hk : k < 8) (he : eqS (wRg.getD k E0) s = true) : keptB s = true := by
  have h1 : s ∈ wRg := hasS_iff.1 (hasS_hit (L := wRg) hk he)
  unfold keptB
  rw [hasS_iff]
  exact List.mem_append_right _ h1
theorem keptB_no {s : ByteArray} (h1 : ∀ k, k < 24 → eqS (opL.getD k E0) s = false) (h2 : ∀ k, k < 8 → eqS (wRg.getD k E0) s = false) : keptB s = false := by
  cases h : keptB s
  · rfl
  · unfold keptB at h
    rw [hasS_iff] at h
    rcases List.mem_append.1 h with h | h
    · have e := hasS_iff.2 (List.mem_cons_of_mem E0 h)
      rw [hasS_miss (L := E0 :: wOp) h1] at e
      cases e
    · have e := hasS_iff.2 h
      rw [hasS_miss (L := wRg) h2] at e
      cases e
theorem keptB_empty : keptB ⟨#[]⟩ = false := by decide +kernel

/-- Where a text stands among these, or -1. -/
def atV (L : List ByteArray) (s : ByteArray) : Int := if hasS L s = true then ((L.findIdx (fun t => eqS t s) : Nat) : Int) else -1
theorem atV_yes {L : List ByteArray} {s : ByteArray} (h : hasS L s = true) : 0 ≤ atV L s := by unfold atV; rw [if_pos h]; omega
theorem atV_no {L : List ByteArray} {s : ByteArray} (h : hasS L s = false) : atV L s = -1 := by unfold atV; rw [h]; rfl
theorem atV_hit {L : List ByteArray} {s : ByteArray} {k : Nat} (hk : k < L.length) (hm : ∀ j, j < k → eqS (L.getD j E0) s = false) (he : eqS (L.getD k E0) s = true) : atV L s = k := by
  unfold atV
  rw [if_pos (hasS_hit hk he)]
  have : L.findIdx (fun t => eqS t s) = k := by
    rw [List.findIdx_eq hk]
    refine ⟨?_, fun j hj => ?_⟩
    · rw [List.getD_eq_getElem?_getD, List.getElem?_eq_getElem hk] at he
      exact he
    · have := hm j hj
      rw [List.getD_eq_getElem?_getD, List.getElem?_eq_getElem (by omega)] at this
      exact this
  rw [this]
/-- A row of texts. -/
def RdS (w : World) (g : Nat) (L : List ByteArray) : Prop := ∀ j, j < L.length → w.cell? ⟨g, j, none⟩ = some (.string (L.getD j E0))

set_option maxHeartbeats 400000 in
theorem at_any (L : List ByteArray) (s : ByteArray) (g n cap : Nat) (w : World) (hn : L.length = n) (hm : n ≤ 1000000) (hr : RdS w g L) : Calls Tryd.prog 43 #[.slice (some ⟨g, 0, none⟩) n cap, .string s] w fun e w' => e = .returned (.int .i64 (atV L s)) ∧ w' = w := by
  obtain ⟨v, hv⟩ : ∃ v, atV L s = v := ⟨_, rfl⟩
  have HIT := hide (fun k (hk : k < n) hm he => (atV_hit (L := L) (s := s) (k := k) (by omega) hm he).symm.trans hv)
  have MISS := hide (fun (h : ∀ k, k < n → eqS (L.getD k E0) s = false) => (atV_no (L := L) (s := s) (hasS_miss (fun k hk => h k (by omega)))).symm.trans hv)
  have RD := hide (fun j (hj : j < n) => hr j (by omega))
  rw [hv]
  clear hv hr
  go_enter Tryd.func43, Tryd.ntmps43
  go_wp2
  go_loop [5] (fun i => ∃ k : Nat, i = .int .i64 k ∧ k ≤ n ∧ Hid (∀ j, j < k → eqS (L.getD j E0) s = false)) (fun i => n - (intOf i).toNat)
  case atStart => exact ⟨0, rfl, by omega, fun j hj => by omega⟩
  case round =>
    obtain ⟨k, rfl, hk, hd⟩ := hrel
    by_cases hlt : k < n
    · have hc := unhide RD k hlt
      have H1 := hide (unhide HIT k hlt hd.out)
      have H2 := hide (show eqS (L.getD k E0) s = false → ∀ j, j < k + 1 → eqS (L.getD j E0) s = false from fun h j hj => by
        by_cases e : j = k
        · subst e; exact h
        · exact hd.out j (by omega))
      generalize L.getD k E0 = T at hc H1 H2
      clear hd
      cases hq : (T.toList == s.toList)
      · have E := hide (unhide H2 hq)
        clear H1 H2
        go_wp2
        go_round
        case rel => exact ⟨k + 1, by go_num, by omega, unhide E⟩
        case measure => simp [intOf]; omega
      · have E := hide (unhide H1 hq)
        clear H1 H2
        go_wp2
        go_ret
        exact ⟨by rw [← unhide E]; rfl, rfl⟩
    · have E := hide (unhide MISS (fun j hj => hd.out j (by omega)))
      clear hd
      go_wp2
      go_ret
      exact ⟨by rw [← unhide E]; rfl, rfl⟩
set_option maxHeartbeats 400000 in
theorem kept_any (w : World) : Calls Tryd.prog 44 #[] w fun e w' => e = .returned (.slice (some ⟨w.heap.size, 0, none⟩) 31 31) ∧ RdS w' w.heap.size keptL ∧ Below w.heap.size w w' := by
  have HR := hide (show RdS (w.alloc (.cells (keptL.map Value.string).toArray 9)) w.heap.size keptL from fun j hj => by
    rw [World.cell?_alloc_at _ _ _ _ rfl, List.getElem?_toArray, List.getElem?_map]
    rw [List.getElem?_eq_getElem hj, List.getD_eq_getElem?_getD, List.getElem?_eq_getElem hj]
    rfl)
  have HB := hide ((Below.refl w.heap.size w).alloc (Nat.le_refl _) (.cells (keptL.map Value.string).toArray 9))
  go_enter Tryd.func44, Tryd.ntmps44
  go_wp2
  go_ret
  exact ⟨rfl, unhide HR, unhide HB⟩
end Go.Proofs.YtmhcbehplhfgfaaDoor

namespace Go.Proofs.YtmhcbehplhfgfaaDoor
open Go.ChangeShapes Go.WideShapes Go.ChangeAt Go.RowKit
set_option linter.unusedVariables false
set_option maxRecDepth 8000

def opC : Array Value := (opL.map Value.string).toArray
def rgC : Array Value := (wRg.map Value.string).toArray
/-- The program's tables of kept words stand as its text lays them. -/
def TabK (w : World) : Prop := (∃ t fr, w.heap[4]? = some (.cells opC t fr)) ∧ (∃ t fr, w.heap[1]? = some (.cells rgC t fr))
theorem TabK.later {w w' : World} {B : Nat} (h : TabK w) (hb : Below B w w') (h0 : 4 < B) (h1 : 1 < B) : TabK w' := by
  obtain ⟨⟨t, f, e⟩, ⟨t', f', e'⟩⟩ := h
  exact ⟨⟨t, f, (hb.block _ h0).trans e⟩, ⟨t', f', (hb.block _ h1).trans e'⟩⟩
theorem TabK.lt {w : World} (h : TabK w) : 4 < w.heap.size ∧ 1 < w.heap.size := by
  obtain ⟨⟨t, f, e⟩, ⟨t', f', e'⟩⟩ := h
  exact ⟨(Array.getElem?_eq_some_iff.1 e).1, (Array.getElem?_eq_some_iff.1 e').1⟩
theorem TabK.next {w w' : World} (h : TabK w) (hb : Below w.heap.size w w') : TabK w' := h.later hb h.lt.1 h.lt.2
theorem ixO_0 (w : World) : (Instr.index 147 (.agg opC) (.int .i64 ((0 : Nat) : Int))).run Tryd.prog w = .ok (.string (opL.getD 0 E0)) w := by kernel_rfl
theorem ixO_1 (w : World) : (Instr.index 147 (.agg opC) (.int .i64 ((1 : Nat) : Int))).run Tryd.prog w = .ok (.string (opL.getD 1 E0)) w := by kernel_rfl
theorem ixO_2 (w : World) : (Instr.index 147 (.agg opC) (.int .i64 ((2 : Nat) : Int))).run Tryd.prog w = .ok (.string (opL.getD 2 E0)) w := by kernel_rfl
theorem ixO_3 (w : World) : (Instr.index 147 (.agg opC) (.int .i64 ((3 : Nat) : Int))).run Tryd.prog w = .ok (.string (opL.getD 3 E0)) w := by kernel_rfl
theorem ixO_4 (w : World) : (Instr.index 147 (.agg opC) (.int .i64 ((4 : Nat) : Int))).run Tryd.prog w = .ok (.string (opL.getD 4 E0)) w := by kernel_rfl
theorem ixO_5 (w : World) : (Instr.index 147 (.agg opC) (.int .i64 ((5 : Nat) : Int))).run Tryd.prog w = .ok (.string (opL.getD 5 E0)) w := by kernel_rfl
theorem ixO_6 (w : World) : (Instr.index 147 (.agg opC) (.int .i64 ((6 : Nat) : Int))).run Tryd.prog w = .ok (.string (opL.getD 6 E0)) w := by kernel_rfl
theorem ixO_7 (w : World) : (Instr.index 147 (.agg opC) (.int .i64 ((7 : Nat) : Int))).run Tryd.prog w = .ok (.string (opL.getD 7 E0)) w := by kernel_rfl
theorem ixO_8 (w : World) : (Instr.index 147 (.agg opC) (.int .i64 ((8 : Nat) : Int))).run Tryd.prog w = .ok (.string (opL.getD 8 E0)) w := by kernel_rfl
theorem ixO_9 (w : World) : (Instr.index 147 (.agg opC) (.int .i64 ((9 : Nat) : Int))).run Tryd.prog w = .ok (.string (opL.getD 9 E0)) w := by kernel_rfl
theorem ixO_10 (w : World) : (Instr.index 147 (.agg opC) (.int .i64 ((10 : Nat) : Int))).run Tryd.prog w = .ok (.string (opL.getD 10 E0)) w := by kernel_rfl
theorem ixO_11 (w : World) : (Instr.index 147 (.agg opC) (.int .i64 ((11 : Nat) : Int))).run Tryd.prog w = .ok (.string (opL.getD 11 E0)) w := by kernel_rfl
theorem ixO_12 (w : World) : (Instr.index 147 (.agg opC) (.int .i64 ((12 : Nat) : Int))).run Tryd.prog w = .ok (.string (opL.getD 12 E0)) w := by kernel_rfl
theorem ixO_13 (w : World) : (Instr.index 147 (.agg opC) (.int .i64 ((13 : Nat) : Int))).run Tryd.prog w = .ok (.string (opL.getD 13 E0)) w := by kernel_rfl
theorem ixO_14 (w : World) : (Instr.index 147 (.agg opC) (.int .i64 ((14 : Nat) : Int))).run Tryd.prog w = .ok (.string (opL.getD 14 E0)) w := by kernel_rfl
theorem ixO_15 (w : World) : (Instr.index 147 (.agg opC) (.int .i64 ((15 : Nat) : Int))).run Tryd.prog w = .ok (.string (opL.getD 15 E0)) w := by kernel_rfl
theorem ixO_16 (w : World) : (Instr.index 147 (.agg opC) (.int .i64 ((16 : Nat) : Int))).run Tryd.prog w = .ok (.string (opL.getD 16 E0)) w := by kernel_rfl
theorem ixO_17 (w : World) : (Instr.index 147 (.agg opC) (.int .i64 ((17 : Nat) : Int))).run Tryd.prog w = .ok (.string (opL.getD 17 E0)) w := by kernel_rfl
theorem ixO_18 (w : World) : (Instr.index 147 (.agg opC) (.int .i64 ((18 : Nat) : Int))).run Tryd.prog w = .ok (.string (opL.getD 18 E0)) w := by kernel_rfl
theorem ixO_19 (w : World) : (Instr.index 147 (.agg opC) (.int .i64 ((19 : Nat) : Int))).run Tryd.prog w = .ok (.string (opL.getD 19 E0)) w := by kernel_rfl
theorem ixO_20 (w : World) : (Instr.index 147 (.agg opC) (.int .i64 ((20 : Nat) : Int))).run Tryd.prog w = .ok (.string (opL.getD 20 E0)) w := by kernel_rfl
theorem ixO_21 (w : World) : (Instr.index 147 (.agg opC) (.int .i64 ((21 : Nat) : Int))).run Tryd.prog w = .ok (.string (opL.getD 21 E0)) w := by kernel_rfl
theorem ixO_22 (w : World) : (Instr.index 147 (.agg opC) (.int .i64 ((22 : Nat) : Int))).run Tryd.prog w = .ok (.string (opL.getD 22 E0)) w := by kernel_rfl
theorem ixO_23 (w : World) : (Instr.index 147 (.agg opC) (.int .i64 ((23 : Nat) : Int))).run Tryd.prog w = .ok (.string (opL.getD 23 E0)) w := by kernel_rfl
theorem ixO (k : Nat) (h : k < 24) (w : World) : (Instr.index 147 (.agg opC) (.int .i64 k)).run Tryd.prog w = .ok (.string (opL.getD k E0)) w := by
  have hk : k = 0 ∨ k = 1 ∨ k = 2 ∨ k = 3 ∨ k = 4 ∨ k = 5 ∨ k = 6 ∨ k = 7 ∨ k = 8 ∨ k = 9 ∨ k = 10 ∨ k = 11 ∨ k = 12 ∨ k = 13 ∨ k = 14 ∨ k = 15 ∨ k = 16 ∨ k = 17 ∨ k = 18 ∨ k = 19 ∨ k = 20 ∨ k = 21 ∨ k = 22 ∨ k = 23 := by omega
  rcases hk with rfl | rfl | rfl | rfl | rfl | rfl | rfl | rfl | rfl | rfl | rfl | rfl | rfl | rfl | rfl | rfl | rfl | rfl | rfl | rfl | rfl | rfl | rfl | rfl
  · exact ixO_0 w
  · exact ixO_1 w
  · exact ixO_2 w
  · exact ixO_3 w
  · exact ixO_4 w
  · exact ixO_5 w
  · exact ixO_6 w
  · exact ixO_7 w
  · exact ixO_8 w
  · exact ixO_9 w
  · exact ixO_10 w
  · exact ixO_11 w
  · exact ixO_12 w
  · exact ixO_13 w
  · exact ixO_14 w
  · exact ixO_15 w
  · exact ixO_16 w
  · exact ixO_17 w
  · exact ixO_18 w
  · exact ixO_19 w
  · exact ixO_20 w
  · exact ixO_21 w
  · exact ixO_22 w
  · exact ixO_23 w
theorem ixR_0 (w : World) : (Instr.index 119 (.agg rgC) (.int .i64 ((0 : Nat) : Int))).run Tryd.prog w = .ok (.string (wRg.getD 0 E0)) w := by kernel_rfl
theorem ixR_1 (w : World) : (Instr.index 119 (.agg rgC) (.int .i64 ((1 : Nat) : Int))).run Tryd.prog w = .ok (.string (wRg.getD 1 E0)) w := by kernel_rfl
theorem ixR_2 (w : World) : (Instr.index 119 (.agg rgC) (.int .i64 ((2 : Nat) : Int))).run Tryd.prog w = .ok (.string (wRg.getD 2 E0)) w := by kernel_rfl
theorem ixR_3 (w : World) : (Instr.index 119 (.agg rgC) (.int .i64 ((3 : Nat) : Int))).run Tryd.prog w = .ok (.string (wRg.getD 3 E0)) w := by kernel_rfl
theorem ixR_4 (w : World) : (Instr.index 119 (.agg rgC) (.int .i64 ((4 : Nat) : Int))).run Tryd.prog w = .ok (.string (wRg.getD 4 E0)) w := by kernel_rfl
theorem ixR_5 (w : World) : (Instr.index 119 (.agg rgC) (.int .i64 ((5 : Nat) : Int))).run Tryd.prog w = .ok (.string (wRg.getD 5 E0)) w := by kernel_rfl
theorem ixR_6 (w : World) : (Instr.index 119 (.agg rgC) (.int .i64 ((6 : Nat) : Int))).run Tryd.prog w = .ok (.string (wRg.getD 6 E0)) w := by kernel_rfl
theorem ixR_7 (w : World) : (Instr.index 119 (.agg rgC) (.int .i64 ((7 : Nat) : Int))).run Tryd.prog w = .ok (.string (wRg.getD 7 E0)) w := by kernel_rfl
theorem ixR (k : Nat) (h : k < 8) (w : World) : (Instr.index 119 (.agg rgC) (.int .i64 k)).run Tryd.prog w = .ok (.string (wRg.getD k E0)) w := by
  have hk : k = 0 ∨ k = 1 ∨ k = 2 ∨ k = 3 ∨ k = 4 ∨ k = 5 ∨ k = 6 ∨ k = 7 := by omega
  rcases hk with rfl | rfl | rfl | rfl | rfl | rfl | rfl | rfl
  · exact ixR_0 w
  · exact ixR_1 w
  · exact ixR_2 w
  · exact ixR_3 w
  · exact ixR_4 w
  · exact ixR_5 w
  · exact ixR_6 w
  · exact ixR_7 w
theorem szO : (Tryd.prog.info? 147).map (·.size) = some opC.size := by kernel_rfl
theorem szR : (Tryd.prog.info? 119).map (·.size) = some rgC.size := by kernel_rfl

set_option maxHeartbeats 1000000 in
theorem keptI_any (s : ByteArray) (w : World) (ht : TabK w) : Calls Tryd.prog 88 #[.string s] w fun e w' => e = .returned (.bool (keptB s)) ∧ w' = w := by
  by_cases h0 : s.size = 0
  · obtain rfl := empty_of s h0
    rw [keptB_empty]
    go_enter Tryd.func88, Tryd.ntmps88
    go_wp2
    go_ret
    exact ⟨rfl, rfl⟩
  · have hemp := emp_no s h0
    obtain ⟨⟨t0, f0, R0⟩, ⟨t1, f1, R1⟩⟩ := ht
    obtain ⟨q, hq⟩ : ∃ q, keptB s = q := ⟨_, rfl⟩
    have HO := hide (fun k hk he => (keptB_op (s := s) h0 (k := k) hk he).symm.trans hq)
    have HR := hide (fun k hk he => (keptB_rg (s := s) (k := k) hk he).symm.trans hq)
    have HN := hide (fun h1 h2 => (keptB_no (s := s) h1 h2).symm.trans hq)
    rw [hq]
    have R0' := hide R0
    have R1' := hide R1
    clear hq R0 R1
    go_enter Tryd.func88, Tryd.ntmps88
    go_wp2_with (refine wpList_load_row rfl 147 _ rfl 4 rfl t0 opC f0 _ (unhide R0') Tryd.underlying147 rfl szO ?_)
    go_loop [10] (fun i => ∃ k : Nat, i = .int .i64 k ∧ k ≤ 24 ∧ Hid (∀ j, j < k → eqS (opL.getD j E0) s = false)) (fun i => 24 - (intOf i).toNat)
    case atStart => exact ⟨0, rfl, by omega, fun j hj => by omega⟩
    case round =>
      obtain ⟨k, rfl, hk, hd⟩ := hrel
      by_cases hlt : k < 24
      · have IX := hide (ixO k hlt)
        have H1 := hide (unhide HO k hlt)
        have H2 := hide (show eqS (opL.getD k E0) s = false → ∀ j, j < k + 1 → eqS (opL.getD j E0) s = false from fun h j hj => by
          by_cases e : j = k
          · subst e; exact h
          · exact hd.out j (by omega))
        generalize opL.getD k E0 = T at IX H1 H2
        clear hd HO HR HN
        cases hq : (T.toList == s.toList)
        · have E := hide (unhide H2 hq)
          clear H1 H2
          go_wp2_with (refine wpList_index_at rfl 147 _ _ rfl _ _ _ rfl rfl (unhide IX) ?_)
          go_round
          case rel => exact ⟨k + 1, by go_num, by omega, unhide E⟩
          case measure => simp [intOf]; omega
        · have E := hide (unhide H1 hq)
          clear H1 H2
          go_wp2_with (refine wpList_index_at rfl 147 _ _ rfl _ _ _ rfl rfl (unhide IX) ?_)
          go_ret
          exact ⟨by rw [← unhide E]; rfl, rfl⟩
      · have HN2 := hide (unhide HN (fun j hj => hd.out j (by omega)))
        clear hd HN HO
        go_wp2_with (refine wpList_load_row rfl 119 _ rfl 1 rfl t1 rgC f1 _ (unhide R1') Tryd.underlying119 rfl szR ?_)
        go_loop [18] (fun i => ∃ k : Nat, i = .int .i64 k ∧ k ≤ 8 ∧ Hid (∀ j, j < k → eqS (wRg.getD j E0) s = false)) (fun i => 8 - (intOf i).toNat)
        case atStart => exact ⟨0, rfl, by omega, fun j hj => by omega⟩
        case round =>
          clear hlt hk
          obtain ⟨k, rfl, hk, hd⟩ := hrel
          by_cases hlt : k < 8
          · have IX := hide (ixR k hlt)
            have H1 := hide (unhide HR k hlt)
            have H2 := hide (show eqS (wRg.getD k E0) s = false → ∀ j, j < k + 1 → eqS (wRg.getD j E0) s = false from fun h j hj => by
              by_cases e : j = k
              · subst e; exact h
              · exact hd.out j (by omega))
            generalize wRg.getD k E0 = T at IX H1 H2
            clear hd HR HN2
            cases hq : (T.toList == s.toList)
            · have E := hide (unhide H2 hq)
              clear H1 H2
              go_wp2_with (refine wpList_index_at rfl 119 _ _ rfl _ _ _ rfl rfl (unhide IX) ?_)
              go_round
              case rel => exact ⟨k + 1, by go_num, by omega, unhide E⟩
              case measure => simp [intOf]; omega
            · have E := hide (unhide H1 hq)
              clear H1 H2
              go_wp2_with (refine wpList_index_at rfl 119 _ _ rfl _ _ _ rfl rfl (unhide IX) ?_)
              go_ret
              exact ⟨by rw [← unhide E]; rfl, rfl⟩
          · have E := hide (unhide HN2 (fun j hj => hd.out j (by omega)))
            clear hd HN2 HR
            go_wp2
            go_ret
            exact ⟨by rw [← unhide E]; rfl, rfl⟩

/-- The marks. -/
def mkL : List UInt8 := [58, 61, 44, 40, 41, 43, 45, 42, 47, 38, 124, 35, 64, 46, 60, 62]
def mkA : ByteArray := ⟨#[58, 61, 44, 40, 41, 43, 45, 42, 47, 38, 124, 35, 64, 46, 60, 62]⟩
/-- Is a text a mark? -/
def markB : List UInt8 → Bool
  | [c] => mkL.contains c
  | _ => false
theorem mkA_sub (k : Nat) (h : k < 16) : (mkA.extract k (k + 1)).data.toList = [mkL.getD k 0] := by
  have hk : k = 0 ∨ k = 1 ∨ k = 2 ∨ k = 3 ∨ k = 4 ∨ k = 5 ∨ k = 6 ∨ k = 7 ∨ k = 8 ∨ k = 9 ∨ k = 10 ∨ k = 11 ∨ k = 12 ∨ k = 13 ∨ k = 14 ∨ k = 15 := by omega
  rcases hk with rfl | rfl | rfl | rfl | rfl | rfl | rfl | rfl | rfl | rfl | rfl | rfl | rfl | rfl | rfl | rfl <;> decide +kernel
theorem markB_hit {s : ByteArray} {k : Nat} (h : k < 16) (he : eqS s (mkA.extract k (k + 1)) = true) : markB s.data.toList = true := by
  rw [eqS_iff] at he
  rw [he, mkA_sub k h]
  show mkL.contains _ = true
  rw [List.contains_iff_mem, List.getD_eq_getElem?_getD, List.getElem?_eq_getElem (show k < mkL.length from h)]
  exact List.getElem_mem _
theorem markB_miss {s : ByteArray} (h : ∀ k, k < 16 → eqS s (mkA.extract k (k + 1)) = false) : markB s.data.toList = false := by
  cases hm : markB s.data.toList
  · rfl
  · exfalso
    match hl : s.data.toList, hm with
    | [c], hm =>
      have hm' : mkL.contains c = true := hm
      rw [List.contains_iff_mem] at hm'
      obtain ⟨k, hk, rfl⟩ := List.getElem_of_mem hm'
      have hk' : k < 16 := hk
      have e : s = mkA.extract k (k + 1) := by
        apply bytes_inj
        rw [hl, mkA_sub k hk', List.getD_eq_getElem?_getD, List.getElem?_eq_getElem hk]
        rfl
      have := h k hk'
      rw [(eqS_iff _ _).2 e] at this
      cases this
end Go.Proofs.YtmhcbehplhfgfaaDoor

namespace Go.Proofs.YtmhcbehplhfgfaaDoor
open Go.ChangeShapes Go.WideShapes Go.ChangeAt Go.RowKit
set_option linter.unusedVariables false
set_option maxRecDepth 8000

theorem ixLite (s : ByteArray) (c : Int) (w : World) : Calls Tryd.prog 92 #[.string s, .int .u8 c] w fun e w' => e = .returned (.int .i64 (Lib.indexByte s.data.toList c.toNat.toUInt8)) ∧ w' = w := by
  go_enter Tryd.func92, Tryd.ntmps92
  go_wp2
  rw [run_callFunc_extern Tryd.func103 (by kernel_rfl) (by kernel_rfl) (by kernel_rfl) (e := Extern.BytealgIndexByte.indexByte) (by kernel_rfl), Lib.run_indexByteString]
  simp only [Result.andThen]
  rw [Oper.upon_value]
  go_wp2
  go_ret
  exact ⟨rfl, rfl⟩
def ixM (c : UInt8) : Int := Lib.indexByte mkL c
theorem ixM_fin : ∀ i : Fin 256, (-1 ≤ ixM (UInt8.ofNat i.val)) ∧ decide (0 ≤ ixM (UInt8.ofNat i.val)) = mkL.contains (UInt8.ofNat i.val) := by decide +kernel
theorem ixM_all (c : UInt8) : -1 ≤ ixM c ∧ decide (0 ≤ ixM c) = mkL.contains c := by
  have h := ixM_fin ⟨c.toNat, c.toNat_lt⟩
  have e : UInt8.ofNat c.toNat = c := UInt8.ofNat_toNat
  simp only [e] at h
  exact h
theorem one_of (s : ByteArray) (h : s.size = 1) : s.data.toList = [s.data.toList.getD 0 0] := by
  have hl := size_len s
  match hs : s.data.toList with
  | [] => rw [hs] at hl; simp at hl; omega
  | [c] => rfl
  | _ :: _ :: _ => rw [hs] at hl; simp at hl; omega

set_option maxHeartbeats 1000000 in
theorem index1_any (s : ByteArray) (h1 : s.size = 1) (w : World) : Calls Tryd.prog 79 #[.string mkA, .string s] w fun e w' => e = .returned (.int .i64 (ixM (s.data.toList.getD 0 0))) ∧ w' = w := by
  have he := sAt s 0 (by omega)
  have hbd := bAt_bd s.data.toList 0
  have HI := hide (fun w => ixLite mkA (bAt s.data.toList 0) w)
  have E := hide (show Lib.indexByte mkA.data.toList (bAt s.data.toList 0).toNat.toUInt8 = ixM (s.data.toList.getD 0 0) by
    unfold ixM bAt
    rw [Int.toNat_natCast]
    have e2 : (s.data.toList.getD 0 0).toNat.toUInt8 = s.data.toList.getD 0 0 := UInt8.ofNat_toNat
    rw [e2]
    rfl)
  rw [unhide E] at HI
  have hne := str_ne (a := s) (b := mkA) (fun e => by rw [e] at h1; exact absurd h1 (by decide))
  generalize ixM (s.data.toList.getD 0 0) = v at HI ⊢
  generalize bAt s.data.toList 0 = c at *
  clear E
  generalize mkA = T at *
  go_enter Tryd.func79, Tryd.ntmps79
  go_wp2_with (go_at_call 92; refine (unhide HI _).mono ?_; rintro e w' ⟨rfl, rfl⟩)
  go_ret
  exact ⟨rfl, rfl⟩
set_option maxHeartbeats 1000000 in
theorem contains1_any (s : ByteArray) (h1 : s.size = 1) (w : World) : Calls Tryd.prog 39 #[.string mkA, .string s] w fun e w' => e = .returned (.bool (markB s.data.toList)) ∧ w' = w := by
  have HI := hide (fun w => index1_any s h1 w)
  have E := hide (show markB s.data.toList = decide (0 ≤ ixM (s.data.toList.getD 0 0)) by rw [(ixM_all _).2]; rw [one_of s h1]; rfl)
  rw [unhide E]
  generalize ixM (s.data.toList.getD 0 0) = v at HI ⊢
  generalize mkA = T at *
  go_enter Tryd.func39, Tryd.ntmps39
  go_wp2_with (first | (go_at_call 79; refine (unhide HI _).mono ?_; rintro e w' ⟨rfl, rfl⟩) | go_in)
  go_ret
  exact ⟨rfl, rfl⟩
/-- A dot and a name's form. -/
def dotB : List UInt8 → Bool
  | 46 :: t => formB t
  | _ => false
theorem dotB_cons (c : UInt8) (t : List UInt8) : dotB (c :: t) = (c == 46 && formB t) := by
  by_cases h : c = 46
  · subst h; rfl
  · rw [beq_eq_false_iff_ne.2 h, Bool.false_and]
    unfold dotB
    split
    · rename_i e; exact absurd (List.cons.inj e).1 h
    · rfl
theorem rest_of (s : ByteArray) : (s.extract 1 s.size).data.toList = s.data.toList.drop 1 := by
  rw [ByteArray.data_extract, Array.toList_extract, List.extract_eq_take_drop]
  rw [List.take_of_length_le]
  rw [List.length_drop, size_len]
  omega
theorem head_of (s : ByteArray) (h : s.size ≠ 0) : s.data.toList = s.data.toList.getD 0 0 :: s.data.toList.drop 1 := by
  have hl := size_len s
  match hs : s.data.toList with
  | [] => rw [hs] at hl; simp at hl; omega
  | _ :: _ => rfl
theorem rest_size (s : ByteArray) : (s.extract 1 s.size).size = s.size - 1 := by
  rw [← size_len, rest_of, List.length_drop, size_len]
theorem first_of (s : ByteArray) (h : s.size ≠ 0) : (s.extract 0 1).data.toList = [s.data.toList.getD 0 0] := by
  rw [ByteArray.data_extract, Array.toList_extract, List.extract_eq_take_drop, List.drop_zero]
  rw [head_of s h]
  rfl
theorem dot_eq (s : ByteArray) (h : s.size ≠ 0) : eqS (s.extract 0 1) ⟨#[46]⟩ = (bAt s.data.toList 0 == 46) := by
  rw [Bool.eq_iff_iff, eqS_iff, beq_iff_eq]
  unfold bAt
  constructor
  · intro e
    have := first_of s h
    rw [e] at this
    have h2 : (46 : UInt8) = s.data.toList.getD 0 0 := by simpa using this
    rw [← h2]; rfl
  · intro e
    apply bytes_inj
    rw [first_of s h]
    have : s.data.toList.getD 0 0 = 46 := by
      apply UInt8.toNat_inj.1
      show _ = 46
      omega
    rw [this]
/-- A token. -/
structure Tk where
  k : Int
  n : Int
  s : ByteArray
def Tk.cs (t : Tk) : Array Value := #[.int .i64 t.k, .int .i64 t.n, .string t.s]
def Tk.v (t : Tk) : Value := .agg t.cs
def nameB (s : ByteArray) : Bool := formB s.data.toList && !keptB s
/-- Is a token right? -/
def Tk.ok (t : Tk) : Bool :=
  if t.k == 2 then inB t.n 0 65535 && decide (t.s.size = 0)
  else if t.n != 0 then false
  else if t.k == 1 then nameB t.s
  else if t.k == 3 then dotB t.s.data.toList
  else if t.k == 4 then markB t.s.data.toList
  else if t.k == 5 then keptB t.s
  else false
set_option maxHeartbeats 1000000 in
theorem nameI_any (s : ByteArray) (w : World) (hmax : s.size ≤ 1099511627776) (ht : TabK w) : Calls Tryd.prog 69 #[.string s] w fun e w' => e = .returned (.bool (nameB s)) ∧ w' = w := by
  have H1 := hide (formI_any s w hmax)
  have H2 := hide (keptI_any s w ht)
  unfold nameB
  generalize formB s.data.toList = p at *
  generalize keptB s = q at *
  clear ht
  cases p
  · go_enter Tryd.func69, Tryd.ntmps69
    go_wp2_with (first | (go_at_call 87; refine (unhide H1).mono ?_; rintro e w' ⟨rfl, rfl⟩) | (go_at_call 88; refine (unhide H2).mono ?_; rintro e w' ⟨rfl, rfl⟩))
    go_ret
    exact ⟨rfl, rfl⟩
  · go_enter Tryd.func69, Tryd.ntmps69
    go_wp2_with (first | (go_at_call 87; refine (unhide H1).mono ?_; rintro e w' ⟨rfl, rfl⟩) | (go_at_call 88; refine (unhide H2).mono ?_; rintro e w' ⟨rfl, rfl⟩))
    go_ret
    exact ⟨rfl, rfl⟩
set_option maxHeartbeats 1000000 in
theorem nameS_any (s : ByteArray) (w : World) (hmax : s.size ≤ 1099511627776) : Calls Tryd.prog 28 #[.string s] w fun e w' => e = .returned (.bool (nameB s)) ∧ Below w.heap.size w w' := by
  have H1 := hide (formS_any s w hmax)
  have HY := hide (fun h => atV_yes (L := keptL) (s := s) h)
  have HN := hide (fun h => atV_no (L := keptL) (s := s) h)
  have HA := hide (fun w1 (hr : RdS w1 w.heap.size keptL) => at_any keptL s w.heap.size 31 31 w1 rfl (by omega) hr)
  have HK := hide (kept_any w)
  unfold nameB keptB
  generalize formB s.data.toList = p at *
  generalize hasS keptL s = q at *
  generalize atV keptL s = v at *
  cases p
  · go_enter Tryd.func28, Tryd.ntmps28
    go_wp2_with (go_at_call 42; refine (unhide H1).mono ?_; rintro e w' ⟨rfl, rfl⟩)
    go_ret
    exact ⟨rfl, Below.refl _ _⟩
  · have E := hide (show (decide (v < 0)) = !q by
      cases q
      · rw [unhide HN rfl]; rfl
      · have := unhide HY rfl
        simp
        omega)
    go_enter Tryd.func28, Tryd.ntmps28
    go_wp2_with (first | (go_at_call 42; refine (unhide H1).mono ?_; rintro e w' ⟨rfl, rfl⟩) | (go_at_call 44; refine (unhide HK).mono ?_; rintro e w1 ⟨rfl, hr1, hb1⟩) | (go_at_call 43; refine (unhide HA _ hr1).mono ?_; rintro e w' ⟨rfl, rfl⟩))
    go_ret
    exact ⟨by rw [← unhide E]; rfl, hb1⟩

theorem box3 (w : World) (t : Tk) (ty : TypeId) : (w.alloc (.cells t.cs ty)).cell? ⟨w.heap.size, 0, none⟩ = some (.int .i64 t.k) ∧ (w.alloc (.cells t.cs ty)).cell? ⟨w.heap.size, 1, none⟩ = some (.int .i64 t.n) ∧ (w.alloc (.cells t.cs ty)).cell? ⟨w.heap.size, 2, none⟩ = some (.string t.s) := by
  refine ⟨?_, ?_, ?_⟩ <;> (rw [World.cell?_alloc_at _ _ _ _ rfl]; rfl)
theorem below_new (w : World) (o : Obj) : Below w.heap.size w (w.alloc o) := (Below.refl _ _).alloc (Nat.le_refl _) _
theorem emp_yes (s : ByteArray) (h : s.size = 0) : s.toList.isEmpty = true := by rw [← decide_eq_emptyBytes]; exact decide_eq_true (empty_of s h)
end Go.Proofs.YtmhcbehplhfgfaaDoor

namespace Go.Proofs.YtmhcbehplhfgfaaDoor
open Go.ChangeShapes Go.WideShapes Go.ChangeAt Go.RowKit
set_option linter.unusedVariables false
set_option maxRecDepth 8000

end Go.Proofs.YtmhcbehplhfgfaaDoor

namespace Go.Proofs.YtmhcbehplhfgfaaDoor
open Go.ChangeShapes Go.WideShapes Go.ChangeAt Go.RowKit
set_option linter.unusedVariables false
set_option maxRecDepth 8000

theorem info3 : (Tryd.prog.info? 3).map (fun i => (i.zero, i.size, i.bytes)) = some (some (.int .i64 0), 1, 8) := by kernel_rfl





def nAt (ns : List Int) (i : Nat) : Int := ns.getD i 0
theorem take_nAt (ns : List Int) (k : Nat) (h : k < ns.length) : ns.take (k + 1) = ns.take k ++ [nAt ns k] := by
  rw [List.take_succ_eq_append_getElem h]; simp [nAt, List.getElem?_eq_getElem h]

/-- A slice of ints with address a reads as ns. -/
def RdN (w : World) (a : Option Addr) (ns : List Int) : Prop :=
  ns = [] ∨ ∃ b off, a = some ⟨b, off, none⟩ ∧ b < w.heap.size ∧ ∀ i, i < ns.length → w.cell? ⟨b, off + i, none⟩ = some (.int .i64 (nAt ns i))
theorem RdN.later {w w' : World} {a : Option Addr} {xs : List Int} (h : RdN w a xs) (hb : Below w.heap.size w w') : RdN w' a xs := by
  rcases h with h | ⟨b, off, ha, hlt, hc⟩
  · exact .inl h
  · exact .inr ⟨b, off, ha, Nat.lt_of_lt_of_le hlt hb.size, fun i hi => (hb.cell (p := ⟨b, off + i, none⟩) hlt).trans (hc i hi)⟩

def cellsN (ns : List Int) : List Value := ns.map fun n => .int .i64 n
theorem cellsN_length (ys : List Int) : (cellsN ys).length = ys.length := by simp [cellsN]
theorem cellsN_append (a b : List Int) : cellsN (a ++ b) = cellsN a ++ cellsN b := by simp [cellsN]
theorem cellsN_one (ys : List Int) : ∀ u ∈ cellsN ys, u.oneCell' = true := by
  intro u hu
  simp only [cellsN, List.mem_map] at hu
  obtain ⟨y, _, rfl⟩ := hu
  rfl
/-- v is a slice of the call's own (blocks from B on) that holds the ints ns. -/
def OwnN (w : World) (B : Nat) (v : Value) (ns : List Int) : Prop := w.ownsRow B 3 1 v ns.length (cellsN ns)

theorem ownN_none (w : World) (B : Nat) : OwnN w B (.slice none 0 0) [] := ⟨rfl, .inl ⟨rfl, rfl⟩⟩
theorem ownN_empty (w : World) : OwnN (w.alloc (Obj.cells #[] 3)) w.heap.size (.slice (some ⟨w.heap.size, 0, none⟩) 0 0) [] :=
  World.ownsRow_lit w #[] 0 (Nat.le_refl _) (by decide) rfl
theorem OwnN.rd {w : World} {B : Nat} {v : Value} {ys : List Int} (h : OwnN w B v ys) : ∃ a cap, v = .slice a ys.length cap ∧ ys.length ≤ cap ∧ cap ≤ maxLen ∧ RdN w a ys ∧ (∀ ad, a = some ad → B ≤ ad.block) ∧ (a = none → cap = 0) := by
  obtain ⟨_, ⟨rfl, h0⟩ | ⟨g, cap, cur, rfl, hg, hh, hn, hm, hs, ht⟩⟩ := id h
  · obtain rfl : ys = [] := List.eq_nil_of_length_eq_zero h0
    exact ⟨none, 0, rfl, Nat.le_refl _, Nat.zero_le _, .inl rfl, (fun _ h => by cases h), fun _ => rfl⟩
  · refine ⟨_, cap, rfl, hn, hm, .inr ⟨g, 0, rfl, (Array.getElem?_eq_some_iff.1 hh).1, fun i hi => ?_⟩, (fun ad h => by cases h; exact hg), fun h => by cases h⟩
    have h2 := World.ownsRow.cellAt h i (by omega)
    rw [Nat.zero_add, h2]
    simp only [cellsN, List.getElem?_map, List.getElem?_eq_getElem hi, Option.map_some]
    unfold nAt
    rw [List.getD_eq_getElem?_getD, List.getElem?_eq_getElem hi]
    rfl
theorem OwnN.rd1 {w : World} {B : Nat} {a : Option Addr} {n cap : Nat} {ys : List Int} (h : OwnN w B (.slice a n cap) ys) : RdN w a ys := by
  obtain ⟨a', cap', e, _, _, hr, _⟩ := h.rd
  cases e
  exact hr
theorem OwnN.keep {w w' : World} {B : Nat} {v : Value} {ys : List Int} (h : OwnN w B v ys) (hs : ∀ g, v.ownBlock = some g → g < w.heap.size → w'.heap[g]? = w.heap[g]?) : OwnN w' B v ys := by
  obtain ⟨h1, h2 | ⟨g, cap, cur, rfl, hg, hh, r⟩⟩ := h
  · exact ⟨h1, .inl h2⟩
  · exact ⟨h1, .inr ⟨g, cap, cur, rfl, hg, (hs g rfl (Array.getElem?_eq_some_iff.1 hh).1).trans hh, r⟩⟩
theorem OwnN.later {w w' : World} {B : Nat} {v : Value} {ys : List Int} (h : OwnN w B v ys) (hb : Below w.heap.size w w') : OwnN w' B v ys := h.keep fun g _ hg => hb.block g hg
theorem OwnN.past {w w' : World} {B : Nat} {v : Value} {ys : List Int} {b : Nat} (h : OwnN w B v ys) (hb : w.grownBy w' (some b)) (hne : v.ownBlock ≠ some b) : OwnN w' B v ys :=
  h.keep fun g hv hg => hb.block g hg (by rw [← hv]; exact hne)
theorem OwnN.lt {w : World} {B : Nat} {v : Value} {ys : List Int} (h : OwnN w B v ys) {g : Nat} (hg : v.ownBlock = some g) : B ≤ g ∧ g < w.heap.size := World.ownsRow.lt h g hg
theorem OwnN.base {w : World} {B B' : Nat} {v : Value} {ys : List Int} (h : OwnN w B v ys) (hB : B' ≤ B) : OwnN w B' v ys := by
  obtain ⟨h1, h2 | ⟨g, cap, cur, e, hg, r⟩⟩ := h
  · exact ⟨h1, .inl h2⟩
  · exact ⟨h1, .inr ⟨g, cap, cur, e, Nat.le_trans hB hg, r⟩⟩
/-- An owned slice, written out: none, or in a block of its own. -/
theorem OwnN.form {w : World} {B : Nat} {v : Value} {ys : List Int} (h : OwnN w B v ys) : (v = .slice none 0 0 ∧ ys = []) ∨ ∃ g cap, v = .slice (some ⟨g, 0, none⟩) ys.length cap ∧ B ≤ g ∧ g < w.heap.size ∧ ys.length ≤ cap ∧ cap ≤ maxLen := by
  obtain ⟨_, ⟨h1, h2⟩ | ⟨g, cap, cur, rfl, hg, hh, hn, hm, r⟩⟩ := h
  · exact .inl ⟨h1, List.eq_nil_of_length_eq_zero h2⟩
  · exact .inr ⟨g, cap, rfl, hg, (Array.getElem?_eq_some_iff.1 hh).1, hn, hm⟩
theorem grownBy_trans {a b c : World} {r : Option Nat} (h : a.grownBy b r) (k : b.grownBy c r) : a.grownBy c r :=
  ⟨k.os.trans h.os, k.tape.trans h.tape, k.output.trans h.output, Nat.le_trans h.size k.size, fun j hj hn => (k.block j (Nat.lt_of_lt_of_le hj h.size) hn).trans (h.block j hj hn)⟩

theorem below_drewN {B : Nat} {a w : World} (h : Below B a w) (n : Nat) : Below B a (w.drewN n) := h.trans ⟨rfl, rfl, rfl, Nat.le_refl _, fun _ _ => rfl⟩

/-- What the marks leave: numbers from k on. -/
def markN (k n : Nat) : List Int := (List.range n).map fun (i : Nat) => (k : Int) + (i : Int)
theorem markN_length (k n : Nat) : (markN k n).length = n := by simp [markN]
theorem markN_at (k n i : Nat) (h : i < n) : nAt (markN k n) i = (k : Int) + i := by
  unfold nAt markN
  rw [List.getD_eq_getElem?_getD, List.getElem?_map, List.getElem?_range h]
  simp
theorem mark_step (k0 k : Nat) (xs : List Int) (h : k < xs.length) : (cellsN (markN k0 k ++ xs.drop k)).set k (.int .i64 ((k0 : Int) + k)) = cellsN (markN k0 (k + 1) ++ xs.drop (k + 1)) := by
  have e1 : markN k0 (k + 1) = markN k0 k ++ [(k0 : Int) + (k : Int)] := by simp [markN, List.range_succ]
  have e2 : xs.drop k = xs[k] :: xs.drop (k + 1) := List.drop_eq_getElem_cons h
  have e4 : (cellsN (markN k0 k)).length = k := by rw [cellsN_length, markN_length]
  have e6 : cellsN (xs.drop k) = cellsN [xs[k]] ++ cellsN (xs.drop (k + 1)) := by rw [e2, ← cellsN_append]; rfl
  rw [e1, cellsN_append, cellsN_append, cellsN_append, e6, List.set_append_right _ _ (by omega), e4, Nat.sub_self]
  simp [cellsN]

end Go.Proofs.YtmhcbehplhfgfaaDoor

namespace Go.Proofs.YtmhcbehplhfgfaaDoor
open Go.ChangeShapes Go.WideShapes Go.ChangeAt Go.RowKit
set_option linter.unusedVariables false
set_option maxRecDepth 8000

def IsRow (k : IntKind) (w : World) (a : Option Addr) (len cap : Nat) (zs : List Int) : Prop :=
  (a = none ∧ len = 0 ∧ cap = 0 ∧ zs = []) ∨
  ∃ x, a = some x ∧ len ≤ cap ∧ cap ≤ maxLen ∧ zs.length = cap ∧ (∀ i, i < zs.length → w.cell? (x.add i) = some (.int k (zs.getD i 0))) ∧ ∀ n ∈ zs, (Lit.int k n).wf = true

def bVal (xs : List UInt8) (i : Nat) : Value := .int .u8 (bAt xs i)

/-- A slice with address a reads as the bytes xs in the world w. -/
def Rd (w : World) (a : Option Addr) (xs : List UInt8) : Prop :=
  xs = [] ∨ ∃ b off, a = some ⟨b, off, none⟩ ∧ b < w.heap.size ∧ ∀ i, i < xs.length → w.cell? ⟨b, off + i, none⟩ = some (.int .u8 (bAt xs i))

theorem Rd.later {w w' : World} {a : Option Addr} {xs : List UInt8} (h : Rd w a xs) (hb : Below w.heap.size w w') : Rd w' a xs := by
  rcases h with h | ⟨b, off, ha, hlt, hc⟩
  · exact .inl h
  · exact .inr ⟨b, off, ha, Nat.lt_of_lt_of_le hlt hb.size, fun i hi => (hb.cell (p := ⟨b, off + i, none⟩) hlt).trans (hc i hi)⟩

theorem Rd.of_row {w : World} {b n : Nat} {xs : List UInt8} (h : w.rowIs b 5 n (bVal xs)) (hn : xs.length ≤ n) : Rd w (some ⟨b, 0, none⟩) xs :=
  .inr ⟨b, 0, rfl, h.lt, fun i hi => by simpa [bVal] using h.cell (i := i) (by omega)⟩

theorem bytes_of_ints (zs : List Int) (h : ∀ n ∈ zs, (Lit.int .u8 n).wf = true) : ∃ xs : List UInt8, xs.length = zs.length ∧ ∀ i, i < zs.length → zs.getD i 0 = bAt xs i := by
  refine ⟨zs.map fun z => UInt8.ofNat z.toNat, by simp, fun i hi => ?_⟩
  have hb := bounds_u8 (h (zs.getD i 0) (by rw [List.getD_eq_getElem?_getD, List.getElem?_eq_getElem hi]; exact List.getElem_mem _))
  unfold bAt
  rw [List.getD_eq_getElem?_getD, List.getD_eq_getElem?_getD, List.getElem?_map, List.getElem?_eq_getElem hi] at *
  simp at hb ⊢
  omega

theorem rd_of_row {w : World} {a : Option Addr} {len cap : Nat} {zs : List Int} (h : IsRow .u8 w a len cap zs) :
    ∃ xs : List UInt8, xs.length = len ∧ len ≤ cap ∧ cap ≤ maxLen ∧ Rd w a xs := by
  rcases h with ⟨rfl, rfl, rfl, rfl⟩ | ⟨x, rfl, hl, hm, hz, hcell, hwz⟩
  · exact ⟨[], rfl, Nat.le_refl _, by unfold maxLen; omega, .inl rfl⟩
  · obtain ⟨ys, hy, hv⟩ := bytes_of_ints zs hwz
    refine ⟨ys.take len, by simp; omega, hl, hm, ?_⟩
    by_cases h0 : len = 0
    · left; simp [h0]
    · right
      obtain ⟨b, off, spot⟩ := x
      have h00 := hcell 0 (by omega)
      have hspot : spot = none := by simpa [Addr.add] using World.cell?_spot h00
      subst hspot
      refine ⟨b, off, rfl, World.block_lt_of_cell? w _ h00, fun i hi => ?_⟩
      have hi' : i < len := by simp at hi; omega
      have := hcell i (by omega)
      rw [hv i (by omega)] at this
      have e : bAt (ys.take len) i = bAt ys i := by
        unfold bAt
        rw [List.getD_eq_getElem?_getD, List.getD_eq_getElem?_getD, List.getElem?_take, if_pos hi']
      rw [e]
      exact (show w.cell? ⟨b, off + i, none⟩ = _ by have h2 := this; unfold Addr.add at h2; by_cases hi0 : i = 0 <;> simpa [hi0] using h2)

def cellsB (ys : List UInt8) : List Value := ys.map fun y => .int .u8 (y.toNat : Int)

theorem cellsB_length (ys : List UInt8) : (cellsB ys).length = ys.length := by simp [cellsB]

theorem cellsB_append (a b : List UInt8) : cellsB (a ++ b) = cellsB a ++ cellsB b := by simp [cellsB]

theorem cellsB_one (ys : List UInt8) : ∀ u ∈ cellsB ys, u.oneCell' = true := by
  intro u hu
  simp only [cellsB, List.mem_map] at hu
  obtain ⟨y, _, rfl⟩ := hu
  rfl

theorem cellsB_get {ys : List UInt8} {j : Nat} {u : Value} (h : (cellsB ys)[j]? = some u) : j < ys.length ∧ u = .int .u8 (bAt ys j) := by
  simp only [cellsB, List.getElem?_map, Option.map_eq_some_iff] at h
  obtain ⟨y, hy, rfl⟩ := h
  have := (List.getElem?_eq_some_iff.1 hy).1
  exact ⟨this, by unfold bAt; rw [List.getD_eq_getElem?_getD, hy]; rfl⟩

/-- v is a slice of the call's own (blocks from B on) that holds the bytes ys. -/
def OwnB (w : World) (B : Nat) (v : Value) (ys : List UInt8) : Prop := w.ownsRow B 5 1 v ys.length (cellsB ys)

theorem rd_cells {w : World} {ad : Addr} {xs : List UInt8} (h : Rd w (some ad) xs) : ∀ j u, (cellsB xs)[j]? = some u → w.cell? (ad.add j) = some u := by
  intro j u hu
  obtain ⟨hj, rfl⟩ := cellsB_get hu
  rcases h with rfl | ⟨b, off, ha, hb, hc⟩
  · simp at hj
  · cases ha
    have := hc j hj
    unfold Addr.add
    by_cases h0 : j = 0
    · subst h0; simpa using this
    · simpa [h0] using this

theorem Rd.alloc {w : World} {a : Option Addr} {xs : List UInt8} (h : Rd w a xs) (o : Obj) : Rd (w.alloc o) a xs := h.later ((Below.refl _ _).alloc (Nat.le_refl _) _)

theorem ownB_empty (w : World) : (w.alloc (Obj.cells #[] 5)).ownsRow w.heap.size 5 1 (.slice (some ⟨w.heap.size, 0, none⟩) 0 0) 0 [] :=
  World.ownsRow_lit w #[] 0 (Nat.le_refl _) (by decide) rfl

theorem OwnB.rd {w : World} {B : Nat} {v : Value} {ys : List UInt8} (h : OwnB w B v ys) : ∃ a cap, v = .slice a ys.length cap ∧ ys.length ≤ cap ∧ cap ≤ maxLen ∧ Rd w a ys ∧ (∀ ad, a = some ad → B ≤ ad.block) ∧ (a = none → cap = 0) := by
  obtain ⟨_, ⟨rfl, h0⟩ | ⟨g, cap, cur, rfl, hg, hh, hn, hm, hs, ht⟩⟩ := id h
  · obtain rfl : ys = [] := List.eq_nil_of_length_eq_zero h0
    exact ⟨none, 0, rfl, Nat.le_refl _, Nat.zero_le _, .inl rfl, (fun _ h => by cases h), fun _ => rfl⟩
  · refine ⟨_, cap, rfl, hn, hm, .inr ⟨g, 0, rfl, (Array.getElem?_eq_some_iff.1 hh).1, fun i hi => ?_⟩, (fun ad h => by cases h; exact hg), fun h => by cases h⟩
    have h2 := World.ownsRow.cellAt h i (by omega)
    rw [Nat.zero_add, h2]
    simp only [cellsB, List.getElem?_map, List.getElem?_eq_getElem hi, Option.map_some]
    unfold bAt
    rw [List.getD_eq_getElem?_getD, List.getElem?_eq_getElem hi]
    rfl

theorem OwnB.rd1 {w : World} {B : Nat} {a : Option Addr} {n cap : Nat} {ys : List UInt8} (h : OwnB w B (.slice a n cap) ys) : Rd w a ys := by
  obtain ⟨a', cap', e, _, _, hr, _⟩ := h.rd
  cases e
  exact hr

theorem OwnB.keep {w w' : World} {B : Nat} {v : Value} {ys : List UInt8} (h : OwnB w B v ys) (hs : ∀ g, v.ownBlock = some g → g < w.heap.size → w'.heap[g]? = w.heap[g]?) : OwnB w' B v ys := by
  obtain ⟨h1, h2 | ⟨g, cap, cur, rfl, hg, hh, r⟩⟩ := h
  · exact ⟨h1, .inl h2⟩
  · exact ⟨h1, .inr ⟨g, cap, cur, rfl, hg, (hs g rfl (Array.getElem?_eq_some_iff.1 hh).1).trans hh, r⟩⟩

theorem OwnB.later {w w' : World} {B : Nat} {v : Value} {ys : List UInt8} (h : OwnB w B v ys) (hb : Below w.heap.size w w') : OwnB w' B v ys := h.keep fun g _ hg => hb.block g hg

theorem OwnB.past {w w' : World} {B : Nat} {v : Value} {ys : List UInt8} {b : Nat} (h : OwnB w B v ys) (hb : w.grownBy w' (some b)) (hne : v.ownBlock ≠ some b) : OwnB w' B v ys :=
  h.keep fun g hv hg => hb.block g hg (by rw [← hv]; exact hne)

theorem OwnB.lt {w : World} {B : Nat} {v : Value} {ys : List UInt8} (h : OwnB w B v ys) {g : Nat} (hg : v.ownBlock = some g) : B ≤ g ∧ g < w.heap.size := World.ownsRow.lt h g hg

/-- An owned slice that is not empty, written out. -/
theorem OwnB.form {w : World} {B : Nat} {v : Value} {ys : List UInt8} (h : OwnB w B v ys) (h0 : 0 < ys.length) : ∃ g cap, v = .slice (some ⟨g, 0, none⟩) ys.length cap ∧ B ≤ g ∧ g < w.heap.size ∧ ys.length ≤ cap ∧ cap ≤ maxLen := by
  obtain ⟨_, ⟨_, h2⟩ | ⟨g, cap, cur, rfl, hg, hh, hn, hm, r⟩⟩ := h
  · omega
  · exact ⟨g, cap, rfl, hg, (Array.getElem?_eq_some_iff.1 hh).1, hn, hm⟩

theorem Rd.past {w w' : World} {a : Option Addr} {xs : List UInt8} {b : Nat} (h : Rd w a xs) (hb : w.grownBy w' (some b)) (hne : ∀ ad, a = some ad → ad.block ≠ b) : Rd w' a xs := by
  rcases h with h | ⟨c, off, rfl, hlt, hc⟩
  · exact .inl h
  · exact .inr ⟨c, off, rfl, Nat.lt_of_lt_of_le hlt hb.size, fun i hi => (World.cell?_of_block (w := w) (hb.block c hlt (by have := hne _ rfl; simpa using this))).trans (hc i hi)⟩

theorem Rd.lt {w : World} {ad : Addr} {xs : List UInt8} (h : Rd w (some ad) xs) (h0 : 0 < xs.length) : ad.block < w.heap.size := by
  rcases h with rfl | ⟨c, off, e, hlt, _⟩
  · simp at h0
  · cases e; exact hlt

theorem i64_and255 (n : Int) : bits .and .i64 n 255 = n % 256 := by
  have h127 : (BitVec.ofInt 64 255).toNat = 2 ^ 8 - 1 := by decide
  have key : (BitVec.ofInt 64 n &&& BitVec.ofInt 64 255).toNat = (n % ((2 ^ 64 : Nat) : Int)).toNat % 2 ^ 8 := by
    rw [BitVec.toNat_and, BitVec.toNat_ofInt, h127, Nat.and_two_pow_sub_one_eq_mod]
  show IntKind.i64.wrap ((BitVec.ofInt 64 n &&& BitVec.ofInt 64 255).toNat : Nat) = n % 256
  rw [key, IntKind.wrap_i64]
  omega

/-- A cursor in block cb over a slice of bytes that reads as xs. -/
structure Cur (w : World) (cb : Nat) (a : Option Addr) (len cap : Nat) (xs : List UInt8) : Prop where
  c0 : w.cell? ⟨cb, 0, none⟩ = some (.slice a len cap)
  c1 : ∃ i : Nat, i ≤ len ∧ w.cell? ⟨cb, 1, none⟩ = some (.int .i64 i)
  c2 : ∃ h : Int, w.cell? ⟨cb, 2, none⟩ = some (.int .i64 h)
  f1 : w.frozen? ⟨cb, 1, none⟩ = false
  f2 : w.frozen? ⟨cb, 2, none⟩ = false
  rd : Rd w a xs
  ln : xs.length = len
  lm : len ≤ 9223372036854775806
  ne : xs = [] ∨ ∀ ad, a = some ad → ad.block ≠ cb

theorem Cur.lt {w : World} {cb : Nat} {a : Option Addr} {len cap : Nat} {xs : List UInt8} (h : Cur w cb a len cap xs) : cb < w.heap.size := World.block_lt_of_cell? w _ h.c0

theorem grownBy_set {w : World} {b o : Nat} (v : Value) : w.grownBy (w.setCell ⟨b, o, none⟩ v) (some b) :=
  ⟨rfl, rfl, rfl, by simp, fun k _ hk => Below.heap_setCell w ⟨b, o, none⟩ v k (fun e => hk (by simp [e]))⟩

theorem grownBy_drewN {w : World} (n : Nat) (r : Option Nat) : w.grownBy (w.drewN n) r := ⟨rfl, rfl, rfl, Nat.le_refl _, fun _ _ _ => rfl⟩

theorem Rd.past' {w w' : World} {a : Option Addr} {xs : List UInt8} {b : Nat} (h : Rd w a xs) (hb : w.grownBy w' (some b)) (hne : xs = [] ∨ ∀ ad, a = some ad → ad.block ≠ b) : Rd w' a xs := by
  rcases hne with h0 | hne
  · exact .inl h0
  · exact h.past hb hne

theorem Cur.draw {w : World} {cb : Nat} {a : Option Addr} {len cap : Nat} {xs : List UInt8} (h : Cur w cb a len cap xs) (n : Nat) : Cur (w.drewN n) cb a len cap xs :=
  ⟨h.c0, h.c1, h.c2, h.f1, h.f2, h.rd.later ⟨rfl, rfl, rfl, Nat.le_refl _, fun _ _ => rfl⟩, h.ln, h.lm, h.ne⟩

theorem Cur.set2 {w : World} {cb : Nat} {a : Option Addr} {len cap : Nat} {xs : List UInt8} (h : Cur w cb a len cap xs) (H : Int) : Cur (w.setCell ⟨cb, 2, none⟩ (.int .i64 H)) cb a len cap xs := by
  have hg : w.grownBy (w.setCell ⟨cb, 2, none⟩ (.int .i64 H)) (some cb) := grownBy_set _
  obtain ⟨c0, ⟨i, hi, c1⟩, ⟨h, c2⟩, f1, f2, rd, ln, lm, ne⟩ := h
  have rd' := rd.past' hg ne
  clear hg rd
  refine ⟨?_, ⟨i, hi, ?_⟩, ⟨H, ?_⟩, ?_, ?_, rd', ln, lm, ne⟩ <;> clear ne rd' <;> go_simp

theorem Cur.set1 {w : World} {cb : Nat} {a : Option Addr} {len cap : Nat} {xs : List UInt8} (h : Cur w cb a len cap xs) (j : Nat) (hj : j ≤ len) (v : Int) (hv : v = (j : Int)) : Cur (w.setCell ⟨cb, 1, none⟩ (.int .i64 v)) cb a len cap xs := by
  subst hv
  have hg : w.grownBy (w.setCell ⟨cb, 1, none⟩ (.int .i64 j)) (some cb) := grownBy_set _
  obtain ⟨c0, ⟨i, hi, c1⟩, ⟨h, c2⟩, f1, f2, rd, ln, lm, ne⟩ := h
  have rd' := rd.past' hg ne
  clear hg rd
  refine ⟨?_, ⟨j, hj, ?_⟩, ⟨h, ?_⟩, ?_, ?_, rd', ln, lm, ne⟩ <;> clear ne rd' <;> go_simp

theorem Cur.code {w : World} {cb : Nat} {a : Option Addr} {len cap : Nat} {xs : List UInt8} (h : Cur w cb a len cap xs) : xs = [] ∨ ∀ ad, a = some ad → ad.block < w.heap.size := by
  rcases h.rd with h0 | ⟨b, off, rfl, hb, _⟩
  · exact .inl h0
  · exact .inr fun ad e => by cases e; exact hb

theorem Cur.past {w w' : World} {cb : Nat} {a : Option Addr} {len cap : Nat} {xs : List UInt8} {row : Option Nat} {B : Nat} (h : Cur w cb a len cap xs) (hg : w.grownBy w' row) (hB : cb < B) (hc : xs = [] ∨ ∀ ad, a = some ad → ad.block < B) (hr : ∀ g, row = some g → B ≤ g) : Cur w' cb a len cap xs := by
  have hlt := h.lt
  have hb : w'.heap[cb]? = w.heap[cb]? := hg.block cb hlt (fun e => by have := hr cb e.symm; omega)
  have hcell : ∀ o, w'.cell? ⟨cb, o, none⟩ = w.cell? ⟨cb, o, none⟩ := fun o => World.cell?_of_block (w := w) hb
  have hfr : ∀ o, w'.frozen? ⟨cb, o, none⟩ = w.frozen? ⟨cb, o, none⟩ := fun o => World.frozen?_of_block (w := w) hb
  refine ⟨(hcell 0).trans h.c0, ?_, ?_, (hfr 1).trans h.f1, (hfr 2).trans h.f2, ?_, h.ln, h.lm, h.ne⟩
  · obtain ⟨i, hi, c1⟩ := h.c1; exact ⟨i, hi, (hcell 1).trans c1⟩
  · obtain ⟨i, c2⟩ := h.c2; exact ⟨i, (hcell 2).trans c2⟩
  · rcases hc with h0 | hc
    · exact .inl h0
    · rcases h.rd with h0 | ⟨b, off, ha, hbl, hcl⟩
      · exact .inl h0
      · refine .inr ⟨b, off, ha, Nat.lt_of_lt_of_le hbl hg.size, fun i hi => ?_⟩
        refine (World.cell?_of_block (w := w) (hg.block b hbl (fun e => ?_))).trans (hcl i hi)
        have h1 := hr b e.symm
        have h2 := hc _ ha
        simp at h2
        omega

theorem Cur.later {w w' : World} {cb : Nat} {a : Option Addr} {len cap : Nat} {xs : List UInt8} (h : Cur w cb a len cap xs) (hb : Below w.heap.size w w') : Cur w' cb a len cap xs :=
  h.past (row := none) (B := w.heap.size) ⟨hb.os, hb.tape, hb.output, hb.size, fun k hk _ => hb.block k hk⟩ h.lt h.code (fun g e => by cases e)

theorem grownBy_below {w w' : World} {r : Option Nat} (hb : Below w.heap.size w w') : w.grownBy w' r := ⟨hb.os, hb.tape, hb.output, hb.size, fun k hk _ => hb.block k hk⟩

theorem grownBy_own {w w1 w2 : World} {r row : Option Nat} (h : w.grownBy w1 r) (k : w1.grownBy w2 row) (hr : ∀ g, row = some g → w.heap.size ≤ g) : w.grownBy w2 r :=
  ⟨k.os.trans h.os, k.tape.trans h.tape, k.output.trans h.output, Nat.le_trans h.size k.size, fun j hj hn => (k.block j (Nat.lt_of_lt_of_le hj h.size) (fun e => by have := hr j e.symm; omega)).trans (h.block j hj hn)⟩

theorem RdN.past {w w' : World} {a : Option Addr} {ns : List Int} {b : Nat} (h : RdN w a ns) (hb : w.grownBy w' (some b)) (hne : ∀ ad, a = some ad → ad.block ≠ b) : RdN w' a ns := by
  rcases h with h | ⟨c, off, rfl, hlt, hc⟩
  · exact .inl h
  · exact .inr ⟨c, off, rfl, Nat.lt_of_lt_of_le hlt hb.size, fun i hi => (World.cell?_of_block (w := w) (hb.block c hlt (by have := hne _ rfl; simpa using this))).trans (hc i hi)⟩

theorem i64_and30 (n : Int) : bits .and .i64 n 1073741823 = n % 1073741824 := by
  have h127 : (BitVec.ofInt 64 1073741823).toNat = 2 ^ 30 - 1 := by decide
  have key : (BitVec.ofInt 64 n &&& BitVec.ofInt 64 1073741823).toNat = (n % ((2 ^ 64 : Nat) : Int)).toNat % 2 ^ 30 := by
    rw [BitVec.toNat_and, BitVec.toNat_ofInt, h127, Nat.and_two_pow_sub_one_eq_mod]
  show IntKind.i64.wrap ((BitVec.ofInt 64 n &&& BitVec.ofInt 64 1073741823).toNat : Nat) = n % 1073741824
  rw [key, IntKind.wrap_i64]
  omega

theorem RdN_lit (w : World) (ns : List Int) : RdN (w.alloc (.cells (ns.map (Value.int .i64)).toArray 3)) (some ⟨w.heap.size, 0, none⟩) ns := by
  refine .inr ⟨w.heap.size, 0, rfl, by simp, fun i hi => ?_⟩
  rw [World.cell?_alloc_at _ _ _ _ rfl]
  simp [nAt, hi]

theorem below_of_new {w w1 w2 : World} (h : Below w.heap.size w w1) (g : w1.grownBy w2 (some w.heap.size)) : Below w.heap.size w w2 := h.grown g h.size (fun k e => by cases e; exact Nat.le_refl _)

end Go.Proofs.YtmhcbehplhfgfaaDoor

namespace Go.Proofs.YtmhcbehplhfgfaaDoor
open Go.ChangeShapes Go.WideShapes Go.ChangeAt Go.RowKit
set_option linter.unusedVariables false
set_option maxRecDepth 8000

/-- A world that keeps what w0 has below B. -/
structure Sub (B : Nat) (w0 : World) where
  w : World
  h : Below B w0 w
theorem Sub.ne (B : Nat) (w0 : World) : Nonempty (Sub B w0) := ⟨⟨w0, Below.refl _ _⟩⟩
section
variable {B : Nat} {w0 : World} {P : Program}
theorem Sub.call {f : FuncId} {args : Array Value} {x : Sub B w0} {v : Value} (hB : B ≤ w0.heap.size) (h : Calls P f args x.w fun e w' => e = .returned v ∧ Below x.w.heap.size x.w w') : Calls P f args x.w fun e w' => e = .returned v ∧ ∃ y : Sub B w0, w' = y.w :=
  h.mono fun e w' ⟨he, hb⟩ => ⟨he, ⟨w', x.h.trans (hb.mono (Nat.le_trans hB x.h.size))⟩, rfl⟩
theorem Sub.same {f : FuncId} {args : Array Value} {x : Sub B w0} {v : Value} (h : Calls P f args x.w fun e w' => e = .returned v ∧ w' = x.w) : Calls P f args x.w fun e w' => e = .returned v ∧ ∃ y : Sub B w0, w' = y.w :=
  h.mono fun e w' ⟨he, hb⟩ => ⟨he, x, hb⟩
theorem wp_region_sub {id : Nat} {Q : Exit → Act → World → Prop} {a : Act} (x : Sub B w0) {l : List Oper} (hm : P.follows .mixedOrders = true) (hB : Region.lexB .any l.toArray = true)
    (h : wpQuiet P l.toArray (fun w' => ∃ y : Sub B w0, w' = y.w) (fun a' => ∀ y : Sub B w0, Q .normal a' y.w) l a) : (Code.region id l.toArray true).wp P Q a x.w :=
  wp_region_quiet (C := fun w' => ∃ y : Sub B w0, w' = y.w) hm hB ⟨⟨_, x.h.drew⟩, rfl⟩ (by
    have e : (fun a' => ∀ w', (∃ y : Sub B w0, w' = y.w) → Q .normal a' w') = (fun a' => ∀ y : Sub B w0, Q .normal a' y.w) := by
      funext a'
      apply propext
      constructor
      · intro h y; exact h _ ⟨y, rfl⟩
      · rintro h _ ⟨y, rfl⟩; exact h y
    rw [e]
    simpa using h)
end
end Go.Proofs.YtmhcbehplhfgfaaDoor

namespace Go.Proofs.YtmhcbehplhfgfaaDoor
open Go.ChangeShapes Go.WideShapes Go.ChangeAt Go.RowKit
set_option linter.unusedVariables false
set_option maxRecDepth 8000

def T0 : Tk := ⟨0, 0, E0⟩
def tAt (ts : List Tk) (i : Nat) : Tk := ts.getD i T0
/-- A slice of tokens with address a reads as ts. -/
def RdT (w : World) (a : Option Addr) (ts : List Tk) : Prop :=
  ts = [] ∨ ∃ b off, a = some ⟨b, off, none⟩ ∧ b < w.heap.size ∧ ∀ i, i < ts.length → w.cell? ⟨b, off + i * 3, none⟩ = some (.int .i64 (tAt ts i).k) ∧ w.cell? ⟨b, off + i * 3 + 1, none⟩ = some (.int .i64 (tAt ts i).n) ∧ w.cell? ⟨b, off + i * 3 + 2, none⟩ = some (.string (tAt ts i).s)
theorem RdT.later {w w' : World} {a : Option Addr} {ts : List Tk} (h : RdT w a ts) (hb : Below w.heap.size w w') : RdT w' a ts := by
  rcases h with h | ⟨b, off, ha, hlt, hc⟩
  · exact .inl h
  · exact .inr ⟨b, off, ha, Nat.lt_of_lt_of_le hlt hb.size, fun i hi => ⟨(hb.cell (p := ⟨b, _, none⟩) hlt).trans (hc i hi).1, (hb.cell (p := ⟨b, _, none⟩) hlt).trans (hc i hi).2.1, (hb.cell (p := ⟨b, _, none⟩) hlt).trans (hc i hi).2.2⟩⟩
/-- The bytes of all texts. -/
def szL : List Tk → Nat
  | [] => 0
  | t :: r => t.s.size + szL r
theorem szL_take (ts : List Tk) (k : Nat) (h : k < ts.length) : szL (ts.take (k + 1)) = szL (ts.take k) + (tAt ts k).s.size := by
  induction ts generalizing k with
  | nil => simp at h
  | cons t r ih =>
    cases k with
    | zero => simp [szL, tAt]
    | succ k =>
      have := ih k (by simpa using h)
      simp only [List.take_succ_cons, szL, this]
      show _ = t.s.size + _ + (tAt r k).s.size
      omega
/-- What the laws' count of a list leaves of so much. -/
def leftT (ts : List Tk) (k : Nat) (left : Int) : Int := left - ts.length - szL (ts.take k)
def cellsT : List Tk → List Value
  | [] => []
  | t :: r => .int .i64 t.k :: .int .i64 t.n :: .string t.s :: cellsT r
theorem cellsT_len (ts : List Tk) : (cellsT ts).length = ts.length * 3 := by
  induction ts with
  | nil => rfl
  | cons t r ih => simp only [cellsT, List.length_cons, ih]; omega
theorem cellsT_app (a b : List Tk) : cellsT (a ++ b) = cellsT a ++ cellsT b := by
  induction a with
  | nil => rfl
  | cons t r ih => simp only [List.cons_append, cellsT, ih]
theorem cellsT_get (ts : List Tk) (i : Nat) (h : i < ts.length) : (cellsT ts)[i * 3]? = some (.int .i64 (tAt ts i).k) ∧ (cellsT ts)[i * 3 + 1]? = some (.int .i64 (tAt ts i).n) ∧ (cellsT ts)[i * 3 + 2]? = some (.string (tAt ts i).s) := by
  induction ts generalizing i with
  | nil => simp at h
  | cons t r ih =>
    cases i with
    | zero => exact ⟨rfl, rfl, rfl⟩
    | succ i =>
      have := ih i (by simpa using h)
      have e : (i + 1) * 3 = i * 3 + 3 := by omega
      rw [e]
      exact this
theorem cellsT_one (ts : List Tk) : ∀ u ∈ cellsT ts, u.oneCell' = true := by
  induction ts with
  | nil => intro u hu; cases hu
  | cons t r ih =>
    intro u hu
    simp only [cellsT, List.mem_cons] at hu
    rcases hu with rfl | rfl | rfl | hu
    · rfl
    · rfl
    · rfl
    · exact ih u hu
theorem cellsT_set (ts : List Tk) (i : Nat) (h : i < ts.length) (t : Tk) : (((cellsT ts).set (i * 3) (.int .i64 t.k)).set (i * 3 + 1) (.int .i64 t.n)).set (i * 3 + 2) (.string t.s) = cellsT (ts.set i t) := by
  induction ts generalizing i with
  | nil => simp at h
  | cons t' r ih =>
    cases i with
    | zero => rfl
    | succ i =>
      have := ih i (by simpa using h)
      have e : (i + 1) * 3 = i * 3 + 3 := by omega
      rw [e, List.set_cons_succ]
      show Value.int .i64 t'.k :: .int .i64 t'.n :: .string t'.s :: (((cellsT r).set (i * 3) (.int .i64 t.k)).set (i * 3 + 1) (.int .i64 t.n)).set (i * 3 + 2) (.string t.s) = _
      rw [this]
      rfl
/-- v is a slice of the call's own (blocks from B on) that holds the tokens ts. -/
def OwnT (w : World) (B : Nat) (v : Value) (ts : List Tk) : Prop := w.ownsRow B 91 3 v ts.length (cellsT ts)
section
variable {w w' : World} {B : Nat} {v : Value} {ts : List Tk}
theorem OwnT.keep (h : OwnT w B v ts) (hs : ∀ g, v.ownBlock = some g → g < w.heap.size → w'.heap[g]? = w.heap[g]?) : OwnT w' B v ts := by
  obtain ⟨h1, h2 | ⟨g, cap, cur, rfl, hg, hh, r⟩⟩ := h
  · exact ⟨h1, .inl h2⟩
  · exact ⟨h1, .inr ⟨g, cap, cur, rfl, hg, (hs g rfl (Array.getElem?_eq_some_iff.1 hh).1).trans hh, r⟩⟩
theorem OwnT.later (h : OwnT w B v ts) (hb : Below w.heap.size w w') : OwnT w' B v ts := h.keep fun g _ hg => hb.block g hg
theorem OwnT.lt (h : OwnT w B v ts) {g : Nat} (hg : v.ownBlock = some g) : B ≤ g ∧ g < w.heap.size := World.ownsRow.lt h g hg
theorem OwnT.base {B' : Nat} (h : OwnT w B v ts) (hB : B' ≤ B) : OwnT w B' v ts := by
  obtain ⟨h1, h2 | ⟨g, cap, cur, e, hg, r⟩⟩ := h
  · exact ⟨h1, .inl h2⟩
  · exact ⟨h1, .inr ⟨g, cap, cur, e, Nat.le_trans hB hg, r⟩⟩
theorem OwnT.form (h : OwnT w B v ts) : (v = .slice none 0 0 ∧ ts = []) ∨ ∃ g cap, v = .slice (some ⟨g, 0, none⟩) ts.length cap ∧ B ≤ g ∧ g < w.heap.size ∧ ts.length ≤ cap ∧ cap ≤ maxLen := by
  obtain ⟨_, ⟨h1, h2⟩ | ⟨g, cap, cur, rfl, hg, hh, hn, hm, r⟩⟩ := h
  · exact .inl ⟨h1, List.eq_nil_of_length_eq_zero h2⟩
  · exact .inr ⟨g, cap, rfl, hg, (Array.getElem?_eq_some_iff.1 hh).1, hn, hm⟩
theorem OwnT.rd (h : OwnT w B v ts) : ∃ a cap, v = .slice a ts.length cap ∧ RdT w a ts := by
  rcases h.form with ⟨rfl, rfl⟩ | ⟨g, cap, rfl, hg, hl, _, _⟩
  · exact ⟨none, 0, rfl, .inl rfl⟩
  · refine ⟨_, cap, rfl, .inr ⟨g, 0, rfl, hl, fun i hi => ?_⟩⟩
    obtain ⟨e0, e1, e2⟩ := cellsT_get ts i hi
    have c0 := World.ownsRow.cellAt h (i * 3) (by omega)
    have c1 := World.ownsRow.cellAt h (i * 3 + 1) (by omega)
    have c2 := World.ownsRow.cellAt h (i * 3 + 2) (by omega)
    simp only [Nat.zero_add]
    exact ⟨c0.trans e0, c1.trans e1, c2.trans e2⟩
theorem OwnT.put {g n cap : Nat} (h : OwnT w B (.slice (some ⟨g, 0, none⟩) n cap) ts) (i : Nat) (hi : i < ts.length) (t : Tk) :
    OwnT (((w.setCell ⟨g, i * 3, none⟩ (.int .i64 t.k)).setCell ⟨g, i * 3 + 1, none⟩ (.int .i64 t.n)).setCell ⟨g, i * 3 + 2, none⟩ (.string t.s)) B (.slice (some ⟨g, 0, none⟩) n cap) (ts.set i t) := by
  have hn : n = ts.length := by
    rcases h.form with ⟨e, _⟩ | ⟨g', cap', e, _⟩
    · cases e
    · cases e; rfl
  subst hn
  have h1 := (World.ownsRow.stored h (i * 3) (.int .i64 t.k)).1
  have h2 := (World.ownsRow.stored h1 (i * 3 + 1) (.int .i64 t.n)).1
  have h3 := (World.ownsRow.stored h2 (i * 3 + 2) (.string t.s)).1
  rw [cellsT_set ts i hi t] at h3
  unfold OwnT
  rw [List.length_set]
  exact h3
end
end Go.Proofs.YtmhcbehplhfgfaaDoor

namespace Go.Proofs.YtmhcbehplhfgfaaDoor
open Go.ChangeShapes Go.WideShapes Go.ChangeAt Go.RowKit
set_option linter.unusedVariables false
set_option maxRecDepth 8000

/-- The text of a token. -/
def tokL (t : Tk) : List UInt8 := if t.k = 2 then octD (t.n % 65536).toNat else t.s.data.toList
theorem octD_six (n : Int) : (octD (n % 65536).toNat).length ≤ 6 := octD_len _ 5 (by have := Int.emod_lt_of_pos n (show (0 : Int) < 65536 by omega); omega)
theorem tokL_len (t : Tk) : (tokL t).length ≤ t.s.size + 6 := by
  unfold tokL
  split
  · have := octD_six t.n; omega
  · rw [size_len]; omega
/-- The line of so many tokens. -/
def lineT (ts : List Tk) : Nat → List UInt8
  | 0 => []
  | k + 1 => lineT ts k ++ (if k = 0 then [] else [32]) ++ tokL (tAt ts k)
theorem lineT_len (ts : List Tk) : ∀ k, k ≤ ts.length → (lineT ts k).length ≤ szL (ts.take k) + 7 * k
  | 0, _ => by simp [lineT]
  | k + 1, h => by
    have h1 := lineT_len ts k (by omega)
    have h2 := tokL_len (tAt ts k)
    have h3 := szL_take ts k (by omega)
    have h4 : (if k = 0 then ([] : List UInt8) else [32]).length ≤ 1 := by split <;> simp
    simp only [lineT, List.length_append]
    omega
theorem szL_le (ts : List Tk) (k : Nat) : szL (ts.take k) ≤ szL ts := by
  induction ts generalizing k with
  | nil => simp
  | cons t r ih =>
    cases k with
    | zero => simp [szL]
    | succ k => simp only [List.take_succ_cons, szL]; have := ih k; omega
theorem szL_at (ts : List Tk) (k : Nat) (h : k < ts.length) : (tAt ts k).s.size ≤ szL ts := by
  have h1 := szL_take ts k h
  have h2 := szL_le ts (k + 1)
  omega
/-- What LineOf answers. -/
def lineOf (ts : List Tk) : List UInt8 := lineT ts ts.length
set_option maxHeartbeats 2000000 in
theorem lineS_any (a : Option Addr) (len cap : Nat) (ts : List Tk) (w : World) (hl : ts.length = len) (hm : len + szL ts ≤ 1048576) (hr : RdT w a ts) : Calls Tryd.prog 34 #[.slice a len cap] w fun e w' => e = .returned (.string (strOf (lineOf ts))) ∧ Below w.heap.size w w' := by
  unfold lineOf
  rw [hl]
  go_enter Tryd.func34, Tryd.ntmps34
  go_wp2
  go_loopw [3, 4] (fun s i wr => ∃ k : Nat, k ≤ len ∧ i = .int .i64 k ∧ s = .string (strOf (lineT ts k)) ∧ Below w.heap.size w wr) (fun _ i _ => len - (intOf i).toNat)
  case atStart => exact ⟨0, Nat.zero_le _, rfl, rfl, Below.refl _ _⟩
  case round =>
    obtain ⟨k, hk, rfl, rfl, hb⟩ := hrel
    by_cases hlt : k < len
    · rcases hr with h0 | ⟨b, off, rfl, hbl, hc⟩
      · rw [h0] at hl; simp at hl; omega
      obtain ⟨c0, c1, c2⟩ := hc k (by omega)
      have d0 : wr.cell? ⟨b, off + k * 3, none⟩ = _ := (hb.cell (p := ⟨b, _, none⟩) hbl).trans c0
      have d1 : wr.cell? ⟨b, off + k * 3 + 1, none⟩ = _ := (hb.cell (p := ⟨b, _, none⟩) hbl).trans c1
      have d2 : wr.cell? ⟨b, off + k * 3 + 2, none⟩ = _ := (hb.cell (p := ⟨b, _, none⟩) hbl).trans c2
      have OC := hide (octS_any (tAt ts k).n wr)
      have hz1 : (strOf (lineT ts k)).size ≤ 16777216 := by
        rw [strOf_size]
        have := lineT_len ts k (by omega)
        have := szL_le ts k
        omega
      have hz2 : (strOf (octD ((tAt ts k).n % 65536).toNat)).size ≤ 6 := by rw [strOf_size]; exact octD_six _
      have hz3 : (tAt ts k).s.size ≤ 1048576 := by have := szL_at ts k (by omega); omega
      have LT := hide (show strOf (lineT ts (k + 1)) = strOf (lineT ts k) ++ (if k = 0 then ⟨#[]⟩ else ⟨#[32]⟩) ++ strOf (tokL (tAt ts k)) by
        show strOf (lineT ts k ++ (if k = 0 then [] else [32]) ++ tokL (tAt ts k)) = _
        rw [← strOf_append, ← strOf_append]
        congr 2
        split <;> rfl)
      have TL := hide (show strOf (tokL (tAt ts k)) = if (tAt ts k).k = 2 then strOf (octD ((tAt ts k).n % 65536).toNat) else (tAt ts k).s by
        unfold tokL
        split
        · rfl
        · rw [strOf_of])
      rw [unhide TL] at LT
      clear c0 c1 c2 hc TL
      have HB := hide hb
      generalize strOf (lineT ts k) = S1 at hz1 LT ⊢
      generalize strOf (octD ((tAt ts k).n % 65536).toNat) = S2 at hz2 LT OC
      generalize (tAt ts k).s = ss at d2 LT hz3
      generalize (tAt ts k).k = kk at d0 LT
      generalize (tAt ts k).n = nn at d1 OC
      clear hb
      by_cases hk0 : k = 0
      · have LT0 := hide (show strOf (lineT ts (k + 1)) = S1 ++ (if kk = 2 then S2 else ss) by
          have := unhide LT
          rw [if_pos hk0] at this
          rw [this]
          congr 1
          apply ByteArray.ext
          rw [ByteArray.data_append]
          simp)
        have hg0 : decide (0 < k) = false := decide_eq_false (by omega)
        clear hk0
        by_cases hk2 : kk = 2
        · subst hk2
          have LT1 := hide (show strOf (lineT ts (k + 1)) = S1 ++ S2 from unhide LT0)
          clear LT LT0
          go_wp2_with (go_at_call 50; refine (unhide OC).mono ?_; rintro e w5 ⟨rfl, hb5⟩)
          go_roundw
          case rel => exact ⟨k + 1, by omega, by go_num, by rw [unhide LT1], (unhide HB).trans (hb5.mono (unhide HB).size)⟩
          case measure => simp [intOf]; omega
        · have LT1 := hide (show strOf (lineT ts (k + 1)) = S1 ++ ss from (unhide LT0).trans (by rw [if_neg hk2]))
          clear LT LT0 OC
          go_wp2
          go_roundw
          case rel => exact ⟨k + 1, by omega, by go_num, by rw [unhide LT1], unhide HB⟩
          case measure => simp [intOf]; omega
      · have hg0 : (0 : Int) < (k : Int) := by omega
        have LT0 := hide (show strOf (lineT ts (k + 1)) = S1 ++ ⟨#[32]⟩ ++ (if kk = 2 then S2 else ss) by have := unhide LT; rw [if_neg hk0] at this; exact this)
        by_cases hk2 : kk = 2
        · subst hk2
          have LT1 := hide (show strOf (lineT ts (k + 1)) = S1 ++ ⟨#[32]⟩ ++ S2 from unhide LT0)
          clear LT LT0
          go_wp2_with (go_at_call 50; refine (unhide OC).mono ?_; rintro e w5 ⟨rfl, hb5⟩)
          go_roundw
          case rel => exact ⟨k + 1, by omega, by go_num, by rw [unhide LT1], (unhide HB).trans (hb5.mono (unhide HB).size)⟩
          case measure => simp [intOf]; omega
        · have LT1 := hide (show strOf (lineT ts (k + 1)) = S1 ++ ⟨#[32]⟩ ++ ss from (unhide LT0).trans (by rw [if_neg hk2]))
          clear LT LT0 OC
          go_wp2
          go_roundw
          case rel => exact ⟨k + 1, by omega, by go_num, by rw [unhide LT1], unhide HB⟩
          case measure => simp [intOf]; omega
    · obtain rfl : k = len := by omega
      go_wp2
      go_ret
      exact ⟨rfl, hb⟩
end Go.Proofs.YtmhcbehplhfgfaaDoor

namespace Go.Proofs.YtmhcbehplhfgfaaDoor
open Go.ChangeShapes Go.WideShapes Go.ChangeAt Go.RowKit
set_option linter.unusedVariables false
theorem info5 : (Tryd.prog.info? 5).map (fun i => (i.zero, i.size, i.bytes)) = some (some (.int .u8 0), 1, 1) := by kernel_rfl

/-- A text copied into a new row of as many noughts: the row then holds its bytes. -/
theorem copy_text (w : World) (s : ByteArray) : ∃ C : Array Value, C.toList = Lib.byteCells s.data.toList ∧
    (Builtin.copy_ #[98, 9] 3 #[.slice (some ⟨w.heap.size, 0, none⟩) s.size s.size, .string s]).run Tryd.prog (w.alloc (.cells (madeCells #[.int .u8 0] s.size) 5)) = .ok (goInt s.size) ((w.alloc (.cells (madeCells #[.int .u8 0] s.size) 5)).setRow w.heap.size C) := by
  obtain ⟨i0, hi, _, h1, _⟩ := info_parts info5
  have hn : (madeCells #[Value.int .u8 0] s.size).toList.length = s.size := by rw [toList_madeCells_one, List.length_replicate]
  have h := Lib.run_copy_row_string (P := Tryd.prog) (w.alloc (.cells (madeCells #[.int .u8 0] s.size) 5)) 98 9 3 5 w.heap.size 0 s.size s.size s _ 5 Tryd.underlying98 (by rw [hi]; simp [h1]) (heap_alloc_new w _) (Nat.le_refl _) (by rw [← Array.length_toList, hn]; omega)
  refine ⟨_, ?_, h⟩
  rw [List.toList_toArray, List.take_zero, List.nil_append, List.drop_eq_nil_of_le (by rw [hn]; omega), List.append_nil]

/-- The text of a row that holds its bytes. -/
theorem text_of_row (W : World) (g : Nat) (C : Array Value) (s : ByteArray) (hC : C.toList = Lib.byteCells s.data.toList) (hg : W.heap[g]? = some (.cells C 5 (0, 0))) (h0 : s.size ≠ 0) (hlim : s.size ≤ 281474976710656) :
    (Builtin.unsafeString_ #[118, 3] 9 #[.pointer (some ⟨g, 0, none⟩), .int .i64 (s.size : Int)]).run Tryd.prog W = .ok (.string s) (W.freeze ⟨g, 0, none⟩ s.size) := by
  have hl : s.data.toList.length = s.size := Array.length_toList
  have hCl : C.size = s.size := by rw [← Array.length_toList, hC, Lib.byteCells_length, hl]
  have h := Lib.run_unsafeString_row (P := Tryd.prog) W 118 3 9 5 Tryd.underlying118 (by kernel_rfl) g C.size (by unfold World.shape?; rw [hg]) s.data.toList (fun e => h0 (by rw [← hl, e]; rfl)) (by omega) (by omega) (fun j x hx => by
    have hc := Lib.cells_of_row hg C.size j (.int .u8 x.toNat)
    rw [List.take_of_length_le (Nat.le_of_eq Array.length_toList), hC] at hc
    exact hc (by simp only [Lib.byteCells, List.getElem?_map, hx, Option.map_some]))
  rw [hl] at h
  exact h

theorem below_of_row (w : World) (s : ByteArray) (C : Array Value) : Below w.heap.size w ((w.alloc (.cells (madeCells #[.int .u8 0] s.size) 5)).setRow w.heap.size C) :=
  ((Below.refl _ w).alloc (Nat.le_refl _) _).trans ⟨rfl, rfl, rfl, by simp [World.setRow], fun k hk => setRow_other _ _ _ _ (by omega)⟩

end Go.Proofs.YtmhcbehplhfgfaaDoor

namespace Go.Proofs.YtmhcbehplhfgfaaDoor
open Go.ChangeShapes Go.WideShapes Go.ChangeAt Go.RowKit
set_option linter.unusedVariables false

/-- What digits are worth, each byte less 48, to the base 8. -/
def ov (l : List UInt8) : Int := l.foldl (fun a c => a * 8 + ((c.toNat : Int) - 48)) 0
theorem ov_snoc (l : List UInt8) (c : UInt8) : ov (l ++ [c]) = ov l * 8 + ((c.toNat : Int) - 48) := by unfold ov; rw [List.foldl_append]; rfl
theorem ov_take (l : List UInt8) (k : Nat) (h : k < l.length) : ov (l.take (k + 1)) = ov (l.take k) * 8 + (bAt l k - 48) := by
  rw [List.take_succ_eq_append_getElem h, ov_snoc]
  unfold bAt
  rw [List.getD_eq_getElem?_getD, List.getElem?_eq_getElem h]
  rfl
/-- Some byte is no digit, or what is read is too great. -/
def Bad (l : List UInt8) : Prop := ∃ k, k < l.length ∧ (bAt l k < 48 ∨ 55 < bAt l k ∨ 65535 < ov (l.take (k + 1)))

def lowV (c : Int) : Int := bits .or .u8 c 32
theorem lowV_bd (c : Int) : 0 ≤ lowV c ∧ lowV c ≤ 255 := ⟨bits_lo_u8 .or c 32, bits_hi_u8 .or c 32⟩
end Go.Proofs.YtmhcbehplhfgfaaDoor

namespace Go.Proofs.YtmhcbehplhfgfaaDoor
open Go.ChangeShapes Go.WideShapes Go.ChangeAt Go.RowKit
set_option linter.unusedVariables false

theorem octD_dig (m : Nat) : ∀ c ∈ octD m, 48 ≤ c.toNat ∧ c.toNat ≤ 55 := by
  induction m using Nat.strongRecOn with
  | ind m ih =>
    intro c hc
    by_cases h : m < 8
    · rw [octD_small m h] at hc
      simp only [List.mem_singleton] at hc
      subst hc
      have := dg_val m h
      omega
    · rw [octD_big m h, List.mem_append] at hc
      rcases hc with hc | hc
      · exact ih (m / 8) (by omega) c hc
      · simp only [List.mem_singleton] at hc
        subst hc
        have := dg_val (m % 8) (by omega)
        omega
theorem octD_ov (m : Nat) : ov (octD m) = m := by
  induction m using Nat.strongRecOn with
  | ind m ih =>
    by_cases h : m < 8
    · rw [octD_small m h]
      have := dg_val m h
      show 0 * 8 + (((dg m).toNat : Int) - 48) = m
      omega
    · rw [octD_big m h, ov_snoc, ih (m / 8) (by omega), dg_val (m % 8) (by omega)]
      omega
theorem octD_ne (m : Nat) : octD m ≠ [] := by
  rw [octD_split]
  simp
theorem ov_take_bd (l : List UInt8) (h : ∀ c ∈ l, 48 ≤ c.toNat) (k : Nat) : 0 ≤ ov (l.take k) ∧ ∀ j, k ≤ j → ov (l.take k) ≤ ov (l.take j) := by
  have step : ∀ k, 0 ≤ ov (l.take k) → ov (l.take k) ≤ ov (l.take (k + 1)) ∧ 0 ≤ ov (l.take (k + 1)) := by
    intro k h0
    by_cases hk : k < l.length
    · rw [ov_take l k hk]
      have : (48 : Int) ≤ bAt l k := by
        unfold bAt
        rw [List.getD_eq_getElem?_getD, List.getElem?_eq_getElem hk]
        have := h l[k] (List.getElem_mem _)
        simp
        omega
      omega
    · rw [List.take_of_length_le (by omega), List.take_of_length_le (by omega)] at *
      exact ⟨Int.le_refl _, h0⟩
  have nn : ∀ k, 0 ≤ ov (l.take k) := by
    intro k
    induction k with
    | zero => exact Int.le_refl _
    | succ k ih => exact (step k ih).2
  refine ⟨nn k, fun j hj => ?_⟩
  induction j with
  | zero => obtain rfl : k = 0 := by omega
            exact Int.le_refl _
  | succ j ih =>
    by_cases e : k = j + 1
    · subst e; exact Int.le_refl _
    · exact Int.le_trans (ih (by omega)) (step j (nn j)).1
theorem octD_good (m : Nat) (hm : m < 65536) : ¬ Bad (octD m) := by
  rintro ⟨k, hk, h⟩
  have hd := octD_dig m (octD m)[k] (List.getElem_mem _)
  have e : bAt (octD m) k = ((octD m)[k].toNat : Int) := by unfold bAt; rw [List.getD_eq_getElem?_getD, List.getElem?_eq_getElem hk]; rfl
  have h2 := (ov_take_bd (octD m) (fun c hc => (octD_dig m c hc).1) (k + 1)).2 (octD m).length (by omega)
  rw [List.take_of_length_le (Nat.le_refl _), octD_ov] at h2
  rw [e] at h
  omega


/-- What strconv.ParseUint(s, 8, 16) ends with: the number and nil; or an error. -/
def PuEnd (l : List UInt8) (e : Ending) : Prop :=
  (0 ≤ ov l ∧ ov l ≤ 65535 ∧ e = .returned (.tuple #[.int .u64 (ov l), .nilIface])) ∨ ((l = [] ∨ Bad l) ∧ ∃ y t v, e = .returned (.tuple #[.int .u64 y, .iface t v]))

theorem in_yes (x a b : Int) (w : World) (h1 : a ≤ x) (h2 : x ≤ b) : Calls Tryd.prog 19 #[.int .i64 x, .int .i64 a, .int .i64 b] w fun e w' => e = .returned (.bool true) ∧ w' = w := by
  go_enter Tryd.func19, Tryd.ntmps19
  go_wp2
  go_ret
  exact ⟨rfl, rfl⟩
theorem in_no (x a b : Int) (w : World) (h : x < a ∨ b < x) : Calls Tryd.prog 19 #[.int .i64 x, .int .i64 a, .int .i64 b] w fun e w' => e = .returned (.bool false) ∧ w' = w := by
  by_cases h1 : x < a
  · clear h
    go_enter Tryd.func19, Tryd.ntmps19
    go_wp2
    go_ret
    exact ⟨rfl, rfl⟩
  · have h2 : b < x := by omega
    have h3 : a ≤ x := by omega
    have h4 : decide (x ≤ b) = false := by simp; omega
    clear h h1
    go_enter Tryd.func19, Tryd.ntmps19
    go_wp2
    go_ret
    exact ⟨rfl, rfl⟩

def Digs (l : List UInt8) (k : Nat) : Prop := ∀ j, j < k → 48 ≤ bAt l j ∧ bAt l j ≤ 55
theorem ov_lt (l : List UInt8) (k : Nat) (hk : k ≤ l.length) (h : Digs l k) : 0 ≤ ov (l.take k) ∧ ov (l.take k) + 1 ≤ ((8 ^ k : Nat) : Int) := by
  induction k with
  | zero => exact ⟨Int.le_refl _, Int.le_refl _⟩
  | succ k ih =>
    have ih := ih (by omega) (fun j hj => h j (by omega))
    have hd := h k (by omega)
    rw [ov_take l k (by omega), Nat.pow_succ]
    omega
theorem ov_six (l : List UInt8) (k : Nat) (hk : k ≤ l.length) (h6 : k ≤ 6) (h : Digs l k) : 0 ≤ ov (l.take k) ∧ ov (l.take k) ≤ 262143 := by
  have h1 := ov_lt l k hk h
  have h2 : 8 ^ k ≤ 8 ^ 6 := Nat.pow_le_pow_right (by omega) h6
  have h3 : (8 : Nat) ^ 6 = 262144 := by decide
  omega

theorem no_dig (s : ByteArray) (k : Nat) (hk : k < s.size) (h : ¬ (48 ≤ bAt s.data.toList k ∧ bAt s.data.toList k ≤ 55)) : ∀ m, m < 65536 → s ≠ strOf (octD m) := by
  intro m _ e
  rw [e, strOf_list] at h
  have hk' : k < (octD m).length := by rw [e, strOf_size] at hk; exact hk
  have hd := octD_dig m (octD m)[k] (List.getElem_mem _)
  apply h
  unfold bAt
  rw [List.getD_eq_getElem?_getD, List.getElem?_eq_getElem hk']
  simp
  omega
theorem no_ov (s : ByteArray) (h : ov s.data.toList < 0 ∨ 65535 < ov s.data.toList ∨ s ≠ strOf (octD (ov s.data.toList).toNat)) : ∀ m, m < 65536 → s ≠ strOf (octD m) := by
  intro m hm e
  have h2 : ov s.data.toList = m := by rw [e, strOf_list, octD_ov]
  rw [h2, Int.toNat_natCast] at h
  rcases h with h | h | h
  · omega
  · omega
  · exact h e

end Go.Proofs.YtmhcbehplhfgfaaDoor
