/- Contracts over this seat's translation, laid together; conditions stand as hypotheses of each. -/
import Derived.Test.YtmhcbehplhfgfaaGreatDoorProg
import Derived.Deep.Slices
import Derived.Lib.SmallJoins
import Derived.Laws.Tables
import Derived.Deep.RegionWith
import Derived.Laws.Strings3
import Derived.BigGuard
import Derived.Lib.BufferWrite
import Derived.Lib.UnsafeStr
import Derived.Lib.IfaceEq
import Derived.Lib.AtoiErrMem
import Derived.Lib.Walk
import Derived.Laws.MakeOwn
import Derived.Laws.Closers25b
import Derived.OwnWalk
import Derived.Laws.ResultCell
import Derived.Laws.Rows
import Derived.Laws.CopyOwn
import Derived.Deep.DeepMust
import Derived.WalkKit
import Derived.ProofKit
import Derived.OpenShut
import Derived.ShutString
import Derived.ChangeOld
import Derived.Below
import Derived.Deep.OwnRows
import Derived.WalkSpells
import Derived.Laws.AppendOwnNone
import Derived.Laws.OwnMore
import Derived.BigQuiet
import Derived.Laws.BitsLemmas
import Derived.WalkLawsBesides
import Derived.Test.YtmhcbehplhfgfaaGreatDoorRows
import Derived.Lib.LaidTab
import Derived.Stop.LaidErr
import Derived.MakeChecks
import Derived.WalkMore
import Derived.LaidLaws
import Derived.Lib.Bytealg
import Derived.Laws.IdiomStrings
import GoSem.Claim
import Derived.JoinedTies
import Derived.KernelRfl

namespace Go.Proofs.YtmhcbehplhfgfaaGreatDoor
open Go.ChangeShapes Go.WideShapes Go.ChangeAt Go.RowKit
set_option linter.unusedVariables false
set_option maxRecDepth 8000
theorem hide {p : Prop} (h : p) : Hid p := h
theorem unhide {p : Prop} (h : Hid p) : p := h
def inB (x a b : Int) : Bool := decide (a ≤ x) && decide (x ≤ b)
theorem inB_t (x a b : Int) (h1 : a ≤ x) (h2 : x ≤ b) : inB x a b = true := by unfold inB; simp [h1, h2]
theorem inB_f (x a b : Int) (h : ¬ (a ≤ x ∧ x ≤ b)) : inB x a b = false := by unfold inB; simp; omega
theorem inB_iff (x a b : Int) : inB x a b = true ↔ a ≤ x ∧ x ≤ b := by unfold inB; simp
theorem in_any (x a b : Int) (w : World) : Calls Tryz.prog 28 #[.int .i64 x, .int .i64 a, .int .i64 b] w fun e w' => e = .returned (.bool (inB x a b)) ∧ w' = w := by
  unfold inB
  by_cases h1 : a ≤ x
  · rw [decide_eq_true h1, Bool.true_and]
    go_enter Tryz.func28, Tryz.ntmps28
    go_wp2
    go_ret
    exact ⟨rfl, rfl⟩
  · rw [decide_eq_false h1, Bool.false_and]
    have h3 : decide (a ≤ x) = false := decide_eq_false h1
    go_enter Tryz.func28, Tryz.ntmps28
    go_wp2
    go_ret
    exact ⟨rfl, rfl⟩
theorem i64_and65535 (n : Int) : bits .and .i64 n 65535 = n % 65536 := by
  have h127 : (BitVec.ofInt 64 65535).toNat = 2 ^ 16 - 1 := by decide
  have key : (BitVec.ofInt 64 n &&& BitVec.ofInt 64 65535).toNat = (n % ((2 ^ 64 : Nat) : Int)).toNat % 2 ^ 16 := by
    rw [BitVec.toNat_and, BitVec.toNat_ofInt, h127, Nat.and_two_pow_sub_one_eq_mod]
  show IntKind.i64.wrap ((BitVec.ofInt 64 n &&& BitVec.ofInt 64 65535).toNat : Nat) = n % 65536
  rw [key, IntKind.wrap_i64]
  omega
theorem ret_int {k : IntKind} {a b : Int} (h : a = b) : Ending.returned (.int k a) = .returned (.int k b) := by rw [h]
theorem ret_bool {a b : Bool} (h : a = b) : Ending.returned (.bool a) = .returned (.bool b) := by rw [h]
theorem wrapI_any (n : Int) (w : World) : Calls Tryz.prog 70 #[.int .i64 n] w fun e w' => e = .returned (.int .i64 (n % 65536)) ∧ w' = w := by
  go_enter Tryz.func70, Tryz.ntmps70
  go_wp2
  go_ret
  exact ⟨ret_int (i64_and65535 n), rfl⟩
theorem wrapS_any (n : Int) (w : World) : Calls Tryz.prog 57 #[.int .i64 n] w fun e w' => e = .returned (.int .i64 (n % 65536)) ∧ w' = w := by
  go_enter Tryz.func57, Tryz.ntmps57
  go_wp2
  go_ret
  exact ⟨ret_int (i64_and65535 n), rfl⟩
theorem isWord_eq (n : Int) : (n == n % 65536) = inB n 0 65535 := by
  unfold inB
  rw [Bool.eq_iff_iff]
  simp
  omega
theorem isWord_any (n : Int) (w : World) : Calls Tryz.prog 99 #[.int .i64 n] w fun e w' => e = .returned (.bool (inB n 0 65535)) ∧ w' = w := by
  rw [← isWord_eq]
  obtain ⟨q, hq⟩ : ∃ q, n % 65536 = q := ⟨_, rfl⟩
  have W := hide (fun w => hq ▸ wrapI_any n w)
  rw [hq]
  clear hq
  go_enter Tryz.func99, Tryz.ntmps99
  go_wp2_with (go_at_call 70; refine (unhide W _).mono ?_; rintro e w' ⟨rfl, rfl⟩)
  go_ret
  exact ⟨rfl, rfl⟩
def bAt (xs : List UInt8) (i : Nat) : Int := ((xs.getD i 0).toNat : Int)
theorem bAt_bd (xs : List UInt8) (i : Nat) : 0 ≤ bAt xs i ∧ bAt xs i ≤ 255 := by
  unfold bAt
  have := (xs.getD i 0).toNat_lt
  omega
theorem sAt (s : ByteArray) (k : Nat) (h : k < s.size) : ((s[k]'h).toNat : Int) = bAt s.data.toList k := by
  unfold bAt
  rw [List.getD_eq_getElem?_getD, List.getElem?_eq_getElem (by simpa using h)]
  rfl
end Go.Proofs.YtmhcbehplhfgfaaGreatDoor

namespace Go.Proofs.YtmhcbehplhfgfaaGreatDoor
open Go.ChangeShapes Go.WideShapes Go.ChangeAt Go.RowKit
set_option linter.unusedVariables false
set_option maxRecDepth 8000
theorem i64_and7 (n : Int) : bits .and .i64 n 7 = n % 8 := by
  have h127 : (BitVec.ofInt 64 7).toNat = 2 ^ 3 - 1 := by decide
  have key : (BitVec.ofInt 64 n &&& BitVec.ofInt 64 7).toNat = (n % ((2 ^ 64 : Nat) : Int)).toNat % 2 ^ 3 := by
    rw [BitVec.toNat_and, BitVec.toNat_ofInt, h127, Nat.and_two_pow_sub_one_eq_mod]
  show IntKind.i64.wrap ((BitVec.ofInt 64 n &&& BitVec.ofInt 64 7).toNat : Nat) = n % 8
  rw [key, IntKind.wrap_i64]
  omega
theorem ret_str {a b : ByteArray} (h : a = b) : Ending.returned (.string a) = .returned (.string b) := by rw [h]
def dg (x : Nat) : UInt8 := UInt8.ofNat (48 + x)
/-- The digits to the base 8, in at most so many steps. -/
def octF : Nat → Nat → List UInt8
  | 0, n => [dg n]
  | k + 1, n => if n < 8 then [dg n] else octF k (n / 8) ++ [dg (n % 8)]
theorem octF_same (k : Nat) : ∀ j n, n ≤ k → n ≤ j → octF k n = octF j n := by
  induction k with
  | zero =>
    intro j n h1 h2
    obtain rfl : n = 0 := by omega
    cases j with
    | zero => rfl
    | succ j => rfl
  | succ k ih =>
    intro j n h1 h2
    cases j with
    | zero =>
      obtain rfl : n = 0 := by omega
      rfl
    | succ j =>
      show (if n < 8 then [dg n] else octF k (n / 8) ++ [dg (n % 8)]) = (if n < 8 then [dg n] else octF j (n / 8) ++ [dg (n % 8)])
      by_cases h : n < 8
      · rw [if_pos h, if_pos h]
      · rw [if_neg h, if_neg h, ih j (n / 8) (by omega) (by omega)]
/-- The digits to the base 8. -/
def octD (n : Nat) : List UInt8 := octF n n
theorem octD_step (n : Nat) : octD n = if n < 8 then [dg n] else octD (n / 8) ++ [dg (n % 8)] := by
  unfold octD
  rw [octF_same n (n + 1) n (Nat.le_refl _) (by omega)]
  show (if n < 8 then [dg n] else octF n (n / 8) ++ [dg (n % 8)]) = _
  rw [octF_same n (n / 8) (n / 8) (by omega) (Nat.le_refl _)]
theorem octD_small (n : Nat) (h : n < 8) : octD n = [dg n] := by rw [octD_step, if_pos h]
theorem octD_big (n : Nat) (h : ¬ n < 8) : octD n = octD (n / 8) ++ [dg (n % 8)] := by rw [octD_step, if_neg h]
def octP (n : Nat) : List UInt8 := if n < 8 then [] else octD (n / 8)
theorem octD_split (n : Nat) : octD n = octP n ++ [dg (n % 8)] := by
  unfold octP
  by_cases h : n < 8
  · rw [if_pos h, octD_small n h, Nat.mod_eq_of_lt h]; rfl
  · rw [if_neg h, octD_big n h]
theorem octD_len (n : Nat) : ∀ k, n < 8 ^ (k + 1) → (octD n).length ≤ k + 1 := by
  intro k
  induction k generalizing n with
  | zero => intro h; rw [octD_small n (by omega)]; simp
  | succ k ih =>
    intro h
    by_cases h8 : n < 8
    · rw [octD_small n h8]; simp
    · rw [octD_big n h8, List.length_append]
      have := ih (n / 8) (by rw [Nat.pow_succ] at h; omega)
      simp; omega
def strOf (l : List UInt8) : ByteArray := ⟨l.toArray⟩
theorem strOf_size (l : List UInt8) : (strOf l).size = l.length := by show l.toArray.size = _; simp
theorem strOf_of (s : ByteArray) : strOf s.data.toList = s := by apply ByteArray.ext; simp [strOf]
theorem strOf_append (a b : List UInt8) : strOf a ++ strOf b = strOf (a ++ b) := by apply ByteArray.ext; show (strOf a ++ strOf b).data = _; rw [ByteArray.data_append]; simp [strOf]
theorem one_conv (W : World) (d : Nat) (hd : d < 8) (x : Int) (hx : x = 48 + (d : Int)) (b : Nat) (hb : b = W.heap.size) : (convert 90 9 (.slice (some ⟨b, 0, none⟩) 1 1)).run Tryz.prog (W.alloc (.cells #[.int .u8 x] 5)) = .ok (.string (strOf [dg d])) (W.alloc (.cells #[.int .u8 x] 5)) := by
  subst hb
  exact run_convert_bytes_back (P := Tryz.prog) (W.alloc (.cells #[.int .u8 x] 5)) 90 9 5 ⟨W.heap.size, 0, none⟩ 1 [dg d] Tryz.underlying90 Tryz.underlying5 Tryz.underlying9 (fun j hj => by
    obtain rfl : j = 0 := by simp at hj; omega
    have e : ((dg d).toNat : Int) = x := by unfold dg; simp; omega
    simp only [List.getElem_cons_zero, e]
    simp [Addr.add])
set_option maxHeartbeats 400000 in
theorem octS_any (n : Int) (w : World) : Calls Tryz.prog 30 #[.int .i64 n] w fun e w' => e = .returned (.string (strOf (octD (n % 65536).toNat))) ∧ Below w.heap.size w w' := by
  obtain ⟨N, hN⟩ := Int.eq_ofNat_of_zero_le (Int.emod_nonneg n (show (65536 : Int) ≠ 0 by omega))
  have hlt : N < 65536 := by have := Int.emod_lt_of_pos n (show (0 : Int) < 65536 by omega); omega
  rw [hN, Int.toNat_natCast]
  have h7 := i64_and7 N
  have hc := one_conv w (N % 8) (by omega) (48 + (N : Int) % 8) (by omega)
  have HN := hide hN
  clear hN
  go_enter Tryz.func30, Tryz.ntmps30
  go_wp2_with fail
  refine (wrapS_any n w).mono ?_
  rintro e w' ⟨he, hw'⟩
  rw [unhide HN] at he
  rw [hw', he]
  clear hw' he w'
  go_wp2
  clear h7 hc
  go_loopw [0, 3] (fun i s wr => ∃ (m : Nat) (t : List UInt8), m < 65536 ∧ t.length ≤ 6 ∧ i = .int .i64 m ∧ s = .string (strOf t) ∧ Hid (octD N = octP m ++ t) ∧ Below w.heap.size w wr) (fun i _ _ => (intOf i).toNat)
  case atStart => exact ⟨N, [dg (N % 8)], hlt, by simp, rfl, rfl, octD_split N, (Below.refl _ _).alloc (Nat.le_refl _) _⟩
  case round =>
    obtain ⟨m, t, hm, ht, rfl, rfl, hsp, hbel⟩ := hrel
    by_cases h8 : m < 8
    · go_wp2
      go_ret
      refine ⟨ret_str ?_, hbel⟩
      rw [hsp.out, octP, if_pos h8, List.nil_append]
    · have h7 := i64_and7 ((m : Int) / 8)
      have hc := one_conv wr (m / 8 % 8) (by omega) (48 + (m : Int) / 8 % 8) (by omega)
      have hsz : (strOf t).size ≤ 6 := by rw [strOf_size]; exact ht
      have hsz1 := strOf_size [dg (m / 8 % 8)]
      go_wp2
      have hsp' : octD N = octP (m / 8) ++ (dg (m / 8 % 8) :: t) := by
        have h1 := hsp.out
        rw [octP, if_neg h8, octD_split (m / 8)] at h1
        rw [h1]; simp
      have hlen : (dg (m / 8 % 8) :: t).length ≤ 6 := by
        have h2 := octD_len N 5 (by omega)
        rw [hsp', List.length_append] at h2
        omega
      go_roundw
      case rel => exact ⟨m / 8, dg (m / 8 % 8) :: t, by omega, hlen, by go_num, by rw [strOf_append]; rfl, hsp', hbel.alloc hbel.size _⟩
      case measure => simp [intOf]; omega
theorem pow2_any (w : World) : Calls Tryz.prog 103 #[.int .i64 8] w fun e w' => e = .returned (.bool true) ∧ w' = w := by
  have h : bits BinOp.and IntKind.i64 8 7 = 0 := by decide +kernel
  go_enter Tryz.func103, Tryz.ntmps103
  go_wp2
  go_ret
  exact ⟨rfl, rfl⟩
theorem tz_num : IntKind.u64.wrap (bits BinOp.and IntKind.u64 8 (IntKind.u64.wrap (-8)) * 285870213051353865) / 288230376151711744 = 7 := by decide +kernel
set_option maxHeartbeats 400000 in
theorem tz_any (w : World) (hg : w.cell? ⟨8, 7, none⟩ = some (.int .u8 3)) : Calls Tryz.prog 104 #[.int .u64 8] w fun e w' => e = .returned (.int .i64 3) ∧ w' = w := by
  have hm := tz_num
  go_enter Tryz.func104, Tryz.ntmps104
  go_wp2
  go_ret
  exact ⟨rfl, rfl⟩
def bOf (xs : List UInt8) (i : Nat) : Int := ((xs.getD i 0).toNat : Int)
/-- The last bytes of the row: noughts, then t. -/
def tail65 (t : List UInt8) (p j : Nat) : Value := if j < p then .int .u8 0 else .int .u8 (bOf t (j - p))
theorem u64_and7 (m : Nat) (hm : m < 65536) : bits .and .u64 (m : Int) 7 = ((m % 8 : Nat) : Int) := by
  have := bits_mask .u64 63 (by decide) (fun n a b => by rw [IntKind.wrap_u64]; omega) 3 (by decide) (m : Int) (by omega) (by omega)
  have e : (2 : Int) ^ 3 - 1 = 7 := by decide
  rw [e] at this
  rw [this]
  omega
def z65 : Array Value := (List.replicate 65 (Value.int .u8 0)).toArray
theorem z65_size : z65.size = 65 := by unfold z65; rw [List.size_toArray, List.length_replicate]
theorem z65_get (i : Nat) (h : i < 65) : z65[i]? = some (Value.int .u8 0) := by unfold z65; rw [List.getElem?_toArray, List.getElem?_replicate, if_pos h]
theorem row65 (w : World) : (w.alloc (Obj.cells z65 160)).rowIs w.heap.size 160 65 (tail65 [] 65) := by
  have h := World.rowIs_alloc w z65 160 (fun _ => .int .u8 0) (fun i hi => z65_get i (by rw [z65_size] at hi; exact hi))
  rw [z65_size] at h
  exact h.congr (fun j hj => by simp [tail65, hj])
theorem zero65 (w : World) : (zeroValue 160).run Tryz.prog w = .ok (.agg z65) w := by kernel_rfl
theorem digit_at (d : Nat) (h8 : d < 8) : ∀ h, (({ data := #[48, 49, 50, 51, 52, 53, 54, 55, 56, 57, 97, 98, 99, 100, 101, 102, 103, 104, 105, 106, 107, 108, 109, 110, 111, 112, 113, 114, 115, 116, 117, 118, 119, 120, 121, 122] } : ByteArray)[d]'h).toNat = 48 + d := by
  match d, h8 with
  | 0, _ => intro h; rfl
  | 1, _ => intro h; rfl
  | 2, _ => intro h; rfl
  | 3, _ => intro h; rfl
  | 4, _ => intro h; rfl
  | 5, _ => intro h; rfl
  | 6, _ => intro h; rfl
  | 7, _ => intro h; rfl
theorem dg_val (d : Nat) (h : d < 8) : ((dg d).toNat : Int) = 48 + d := by unfold dg; simp; omega
theorem tail_step {W : World} {b p : Nat} {t : List UInt8} (h : W.rowIs b 160 65 (tail65 t p)) (hp1 : 1 ≤ p) (d : Nat) (hd : d < 8) (x : Int) (hx : x = 48 + (d : Int)) : (W.setCell ⟨b, p - 1, none⟩ (.int .u8 x)).rowIs b 160 65 (tail65 (dg d :: t) (p - 1)) := by
  refine (h.set (p - 1) (.int .u8 x)).congr (fun j hj => ?_)
  by_cases e : j = p - 1
  · subst e
    rw [if_pos rfl]
    unfold tail65
    rw [if_neg (by omega), Nat.sub_self]
    have : bOf (dg d :: t) 0 = x := by rw [hx, ← dg_val d hd]; rfl
    rw [this]
  · rw [if_neg e]
    unfold tail65
    by_cases e2 : j < p - 1
    · rw [if_pos (by omega), if_pos e2]
    · rw [if_neg (by omega), if_neg e2]
      have : j - (p - 1) = (j - p) + 1 := by omega
      rw [this]
      rfl
theorem tail_conv {W : World} {b p : Nat} {t : List UInt8} (h : W.rowIs b 160 65 (tail65 t p)) (hp : p + t.length = 65) (n c : Nat) (hn : n = t.length) : (convert 90 9 (.slice (some ⟨b, p, none⟩) n c)).run Tryz.prog W = .ok (.string (strOf t)) W := by
  subst hn
  exact run_convert_bytes_back (P := Tryz.prog) W 90 9 5 ⟨b, p, none⟩ c t Tryz.underlying90 Tryz.underlying5 Tryz.underlying9 (fun j hj => by
    have h2 := h.cell (i := p + j) (by omega)
    unfold tail65 at h2
    rw [if_neg (by omega), Nat.add_sub_cancel_left] at h2
    have e : bOf t j = (t[j].toNat : Int) := by unfold bOf; rw [List.getD_eq_getElem?_getD, List.getElem?_eq_getElem hj]; rfl
    rw [e] at h2
    unfold Addr.add
    by_cases h0 : j = 0
    · subst h0; simpa using h2
    · simpa [h0] using h2)
theorem slice65 (b p : Nat) (h1 : 1 ≤ p) (h2 : p ≤ 65) (W : World) : (Instr.sliceAt 160 (.pointer (some ⟨b, 0, none⟩)) (some (.int .i64 ((p : Int) - 1))) none none).run Tryz.prog W = .ok (.slice (some ⟨b, p - 1, none⟩) (65 - (p - 1)) (65 - (p - 1))) W := by
  have hal : Tryz.prog.arrayLen 160 = 65 := by simp [Program.arrayLen, Tryz.underlying160]
  rw [run_sliceAt_array_l W 160 ⟨b, 0, none⟩ (by simp [Program.arrayLen, Program.elem, Tryz.underlying160]) .i64 ((p : Int) - 1) (by omega) (by rw [hal]; omega)]
  have e : ((p : Int) - 1).toNat = p - 1 := by omega
  have hne : ¬ 65 = p - 1 := by omega
  rw [hal, e]
  go_simp
set_option maxHeartbeats 1000000 in
theorem fmtBits_any (N : Nat) (hN : N < 65536) (w : World) (hg : w.cell? ⟨8, 7, none⟩ = some (.int .u8 3)) :
    Calls Tryz.prog 96 #[.slice none 0 0, .int .u64 N, .int .i64 8, .bool false, .bool false] w fun e w' => e = .returned (.tuple #[.slice none 0 0, .string (strOf (octD N))]) ∧ Below w.heap.size w w' := by
  have hlt := World.block_lt_of_cell? w _ hg
  have hlt4 : 8 < w.heap.size := hlt
  have HG : ∀ o, (w.alloc o).cell? ⟨8, 7, none⟩ = some (.int .u8 3) := fun o => by rw [World.cell?_alloc_past _ _ _ hlt4]; exact hg
  have HG' := hide HG
  clear HG hg hlt
  have hz := zero65
  go_enter Tryz.func96, Tryz.ntmps96
  go_wp2_with (first | (go_at_call 103; refine (pow2_any _).mono ?_; rintro e w' ⟨rfl, hw'⟩; rw [hw']; clear hw' w') | (go_at_call 104; refine (tz_any _ (by exact unhide HG' _)).mono ?_; rintro e w' ⟨rfl, hw'⟩; rw [hw']; clear hw' w'))
  have R0' := hide (row65 w)
  clear hz
  go_loopw [1, 13] (fun u i wr => ∃ (m : Nat) (t : List UInt8) (p : Nat), m < 65536 ∧ p + t.length = 65 ∧ t.length ≤ 6 ∧ u = .int .u64 m ∧ i = .int .i64 p ∧ Hid (octD N = octD m ++ t) ∧ wr.rowIs w.heap.size 160 65 (tail65 t p) ∧ Below w.heap.size w wr) (fun u _ _ => (intOf u).toNat)
  case atStart => exact ⟨N, [], 65, hN, rfl, by simp, rfl, rfl, by show octD N = _; simp, unhide R0', (Below.refl _ _).alloc (Nat.le_refl _) _⟩
  case round =>
    obtain ⟨m, t, p, hm, hp, ht, rfl, rfl, hsp, hrow, hbel⟩ := hrel
    clear R0'
    have hp1 : 59 ≤ p := by omega
    by_cases h8 : m < 8
    · have hdig := digit_at m h8
      have hfz := hrow.frozen (p - 1)
      have hco := hrow.cell (i := p - 1) (by omega)
      have R1 := tail_step hrow (by omega) m h8 (48 + (m : Int)) rfl
      have hcv := tail_conv R1 (by rw [List.length_cons]; omega) (65 - (p - 1)) (65 - (p - 1)) (by rw [List.length_cons]; omega)
      have hsl := slice65 w.heap.size p (by omega) (by omega)
      have R1' := hide R1
      clear R1 hrow
      go_wp2
      go_ret2
      refine ⟨?_, hbel.setCell (p := ⟨w.heap.size, p - 1, none⟩) (Nat.le_refl _) _⟩
      rw [hsp.out, octD_small m h8]
      rfl
    · have h7 := u64_and7 m hm
      have hdig := digit_at (m % 8) (by omega)
      have hfz := hrow.frozen (p - 1)
      have hco := hrow.cell (i := p - 1) (by omega)
      have R1 := hide (tail_step hrow (by omega) (m % 8) (by omega) (48 + (m : Int) % 8) (by omega))
      have hsp' : octD N = octD (m / 8) ++ (dg (m % 8) :: t) := by
        have h1 := hsp.out
        rw [octD_big m h8] at h1
        rw [h1]; simp
      have hlen : (dg (m % 8) :: t).length ≤ 6 := by
        have h2 := octD_len N 5 (by omega)
        rw [hsp', List.length_append] at h2
        omega
      have HS := hide hsp'
      have HL := hide hlen
      clear hrow hsp' hlen
      go_wp2
      go_roundw
      case rel => exact ⟨m / 8, dg (m % 8) :: t, p - 1, by omega, by rw [List.length_cons]; omega, unhide HL, by go_num, by go_num, unhide HS, unhide R1, hbel.setCell (p := ⟨w.heap.size, p - 1, none⟩) (Nat.le_refl _) _⟩
      case measure => simp [intOf]; omega
set_option maxHeartbeats 400000 in
theorem fmtInt_any (N : Nat) (hN : N < 65536) (w : World) (hg : w.cell? ⟨8, 7, none⟩ = some (.int .u8 3)) :
    Calls Tryz.prog 85 #[.int .i64 N, .int .i64 8] w fun e w' => e = .returned (.string (strOf (octD N))) ∧ Below w.heap.size w w' := by
  have H := hide (fmtBits_any N hN w hg)
  clear hg
  go_enter Tryz.func85, Tryz.ntmps85
  go_wp2_with fail
  refine (unhide H).mono ?_
  rintro e w1 ⟨rfl, hb⟩
  go_wp2
  go_ret
  exact ⟨rfl, hb⟩
set_option maxHeartbeats 400000 in
theorem octI_any (n : Int) (w : World) (hg : w.cell? ⟨8, 7, none⟩ = some (.int .u8 3)) :
    Calls Tryz.prog 48 #[.int .i64 n] w fun e w' => e = .returned (.string (strOf (octD (n % 65536).toNat))) ∧ Below w.heap.size w w' := by
  obtain ⟨N, hN⟩ := Int.eq_ofNat_of_zero_le (Int.emod_nonneg n (show (65536 : Int) ≠ 0 by omega))
  have hlt : N < 65536 := by have := Int.emod_lt_of_pos n (show (0 : Int) < 65536 by omega); omega
  rw [hN, Int.toNat_natCast]
  have HN := hide hN
  have H := hide (fmtInt_any N hlt w hg)
  clear hN hg
  go_enter Tryz.func48, Tryz.ntmps48
  go_wp2_with fail
  refine (wrapI_any n w).mono ?_
  rintro e w' ⟨he, hw'⟩
  rw [unhide HN] at he
  rw [hw', he]
  clear hw' he w'
  go_wp2_with (first | (go_at_call 85; refine (unhide H).mono ?_; rintro e w1 ⟨rfl, hb⟩) | go_in)
  go_ret
  exact ⟨rfl, hb⟩
end Go.Proofs.YtmhcbehplhfgfaaGreatDoor

namespace Go.Proofs.YtmhcbehplhfgfaaGreatDoor
open Go.ChangeShapes Go.WideShapes Go.ChangeAt Go.RowKit
set_option linter.unusedVariables false
set_option maxRecDepth 8000
def smB (c : Int) : Bool := inB c 97 122
def dgB (c : Int) : Bool := inB c 48 57
def ldB (c : Int) : Bool := smB c || dgB c
theorem smI_any (c : Int) (w : World) : Calls Tryz.prog 87 #[.int .u8 c] w fun e w' => e = .returned (.bool (smB c)) ∧ w' = w := by
  unfold smB inB
  cases h : decide (97 ≤ c)
  · go_enter Tryz.func87, Tryz.ntmps87
    go_wp2
    go_ret
    exact ⟨rfl, rfl⟩
  · go_enter Tryz.func87, Tryz.ntmps87
    go_wp2
    go_ret
    exact ⟨rfl, rfl⟩
theorem dgI_any (c : Int) (w : World) : Calls Tryz.prog 97 #[.int .u8 c] w fun e w' => e = .returned (.bool (dgB c)) ∧ w' = w := by
  unfold dgB inB
  cases h : decide (48 ≤ c)
  · go_enter Tryz.func97, Tryz.ntmps97
    go_wp2
    go_ret
    exact ⟨rfl, rfl⟩
  · go_enter Tryz.func97, Tryz.ntmps97
    go_wp2
    go_ret
    exact ⟨rfl, rfl⟩
theorem ldI_any (c : Int) (w : World) : Calls Tryz.prog 88 #[.int .u8 c] w fun e w' => e = .returned (.bool (ldB c)) ∧ w' = w := by
  have H1 := hide (fun w => smI_any c w)
  have H2 := hide (fun w => dgI_any c w)
  unfold ldB
  generalize smB c = a at *
  generalize dgB c = b at *
  cases a
  · go_enter Tryz.func88, Tryz.ntmps88
    go_wp2_with (first | (go_at_call 87; refine (unhide H1 _).mono ?_; rintro e w' ⟨rfl, rfl⟩) | (go_at_call 97; refine (unhide H2 _).mono ?_; rintro e w' ⟨rfl, rfl⟩))
    go_ret
    exact ⟨rfl, rfl⟩
  · go_enter Tryz.func88, Tryz.ntmps88
    go_wp2_with (first | (go_at_call 87; refine (unhide H1 _).mono ?_; rintro e w' ⟨rfl, rfl⟩) | (go_at_call 97; refine (unhide H2 _).mono ?_; rintro e w' ⟨rfl, rfl⟩))
    go_ret
    exact ⟨rfl, rfl⟩
theorem smS_any (c : Int) (w : World) (h0 : 0 ≤ c) (h1 : c ≤ 255) : Calls Tryz.prog 71 #[.int .u8 c] w fun e w' => e = .returned (.bool (smB c)) ∧ w' = w := by
  unfold smB
  go_enter Tryz.func71, Tryz.ntmps71
  go_wp2_with (go_at_call 28; refine (in_any _ _ _ _).mono ?_; rintro e w' ⟨rfl, rfl⟩)
  go_ret
  exact ⟨rfl, rfl⟩
theorem dgS_any (c : Int) (w : World) (h0 : 0 ≤ c) (h1 : c ≤ 255) : Calls Tryz.prog 72 #[.int .u8 c] w fun e w' => e = .returned (.bool (dgB c)) ∧ w' = w := by
  unfold dgB
  go_enter Tryz.func72, Tryz.ntmps72
  go_wp2_with (go_at_call 28; refine (in_any _ _ _ _).mono ?_; rintro e w' ⟨rfl, rfl⟩)
  go_ret
  exact ⟨rfl, rfl⟩
/-- May this byte stand in a name's form? -/
def okAt (l : List UInt8) (i : Nat) : Bool := smB (bAt l i) || (decide (0 < i) && dgB (bAt l i))
/-- Has a text a name's form? -/
def formB (l : List UInt8) : Bool := (List.range l.length).all (okAt l) && inB l.length 1 6
theorem formB_no {l : List UInt8} {k : Nat} (h : k < l.length) (hk : okAt l k = false) : formB l = false := by
  unfold formB
  have : (List.range l.length).all (okAt l) = false := by
    rw [List.all_eq_false]
    exact ⟨k, List.mem_range.2 h, by rw [hk]; decide⟩
  rw [this, Bool.false_and]
theorem formB_all {l : List UInt8} (h : ∀ k, k < l.length → okAt l k = true) : formB l = inB l.length 1 6 := by
  unfold formB
  have : (List.range l.length).all (okAt l) = true := by
    rw [List.all_eq_true]
    exact fun k hk => h k (List.mem_range.1 hk)
  rw [this, Bool.true_and]
theorem formB_len {l : List UInt8} (h : ¬ (1 ≤ l.length ∧ l.length ≤ 6)) : formB l = false := by
  unfold formB
  rw [inB_f _ _ _ (by omega), Bool.and_false]
theorem size_len (s : ByteArray) : s.data.toList.length = s.size := by simp
theorem empty_of (s : ByteArray) (h : s.size = 0) : s = ⟨#[]⟩ := by apply ByteArray.ext; exact Array.eq_empty_of_size_eq_zero h
theorem emp_no (s : ByteArray) (h : s.size ≠ 0) : s.toList.isEmpty = false := by
  rw [← decide_eq_emptyBytes]
  exact decide_eq_false (fun e => h (by rw [e]; rfl))
set_option maxHeartbeats 400000 in
theorem formS_any (s : ByteArray) (w : World) (hmax : s.size ≤ 1099511627776) : Calls Tryz.prog 53 #[.string s] w fun e w' => e = .returned (.bool (formB s.data.toList)) ∧ w' = w := by
  have hl := size_len s
  obtain ⟨q, hq⟩ : ∃ q, formB s.data.toList = q := ⟨_, rfl⟩
  have NO := hide (fun k hk h => (formB_no (l := s.data.toList) (k := k) hk h).symm.trans hq)
  have YES := hide (fun h => (formB_all (l := s.data.toList) h).symm.trans hq)
  rw [hl] at NO YES
  rw [hq]
  clear hq
  go_enter Tryz.func53, Tryz.ntmps53
  go_wp2
  go_loop [3] (fun i => ∃ k : Nat, i = .int .i64 k ∧ k ≤ s.size ∧ Hid (∀ j, j < k → okAt s.data.toList j = true)) (fun i => s.size - (intOf i).toNat)
  case atStart => exact ⟨0, rfl, by omega, fun j hj => by omega⟩
  case round =>
    obtain ⟨k, rfl, hk, hd⟩ := hrel
    by_cases hlt : k < s.size
    · have he := sAt s k hlt
      have hbd := bAt_bd s.data.toList k
      have N1 := hide (unhide NO k hlt)
      have hd1 : okAt s.data.toList k = true → ∀ j, j < k + 1 → okAt s.data.toList j = true := fun h j hj => by
        by_cases e : j = k
        · subst e; exact h
        · exact hd.out j (by omega)
      have HD := hide hd1
      have S1 := hide (fun w => smS_any (bAt s.data.toList k) w hbd.1 hbd.2)
      have D1 := hide (fun w => dgS_any (bAt s.data.toList k) w hbd.1 hbd.2)
      have OK := hide (show okAt s.data.toList k = (smB (bAt s.data.toList k) || (decide (0 < k) && dgB (bAt s.data.toList k))) from rfl)
      generalize smB (bAt s.data.toList k) = p at S1 OK
      generalize dgB (bAt s.data.toList k) = r at D1 OK
      generalize bAt s.data.toList k = c at he hbd S1 D1
      clear hd hd1
      cases p
      · by_cases hz : k = 0
        · subst hz
          have E := hide (unhide N1 (by rw [unhide OK]; rfl))
          go_wp2_with (first | (go_at_call 71; refine (unhide S1 _).mono ?_; rintro e w' ⟨rfl, rfl⟩) | (go_at_call 72; refine (unhide D1 _).mono ?_; rintro e w' ⟨rfl, rfl⟩))
          go_ret
          exact ⟨by rw [← unhide E]; rfl, rfl⟩
        · have hz1 : ((k : Int) == 0) = false := beq_eq_false_iff_ne.2 (by omega)
          cases r
          · have E := hide (unhide N1 (by rw [unhide OK]; simp))
            go_wp2_with (first | (go_at_call 71; refine (unhide S1 _).mono ?_; rintro e w' ⟨rfl, rfl⟩) | (go_at_call 72; refine (unhide D1 _).mono ?_; rintro e w' ⟨rfl, rfl⟩))
            go_ret
            exact ⟨by rw [← unhide E]; rfl, rfl⟩
          · have E := hide (unhide HD (by rw [unhide OK]; simp; omega))
            go_wp2_with (first | (go_at_call 71; refine (unhide S1 _).mono ?_; rintro e w' ⟨rfl, rfl⟩) | (go_at_call 72; refine (unhide D1 _).mono ?_; rintro e w' ⟨rfl, rfl⟩))
            go_round
            case rel => exact ⟨k + 1, by go_num, by omega, unhide E⟩
            case measure => simp [intOf]; omega
      · have E := hide (unhide HD (by rw [unhide OK]; rfl))
        go_wp2_with (first | (go_at_call 71; refine (unhide S1 _).mono ?_; rintro e w' ⟨rfl, rfl⟩) | (go_at_call 72; refine (unhide D1 _).mono ?_; rintro e w' ⟨rfl, rfl⟩))
        go_round
        case rel => exact ⟨k + 1, by go_num, by omega, unhide E⟩
        case measure => simp [intOf]; omega
    · have E := hide (unhide YES (fun j hj => hd.out j (by omega)))
      clear hd
      go_wp2_with (go_at_call 28; refine (in_any _ _ _ _).mono ?_; rintro e w' ⟨rfl, rfl⟩)
      go_ret
      exact ⟨by rw [← unhide E]; rfl, rfl⟩
set_option maxHeartbeats 400000 in
theorem formI_any (s : ByteArray) (w : World) (hmax : s.size ≤ 1099511627776) : Calls Tryz.prog 79 #[.string s] w fun e w' => e = .returned (.bool (formB s.data.toList)) ∧ w' = w := by
  by_cases h0 : s.size = 0
  · obtain rfl := empty_of s h0
    have E := hide (show false = formB (ByteArray.mk #[]).data.toList by decide)
    rw [← unhide E]
    go_enter Tryz.func79, Tryz.ntmps79
    go_wp2
    go_ret
    exact ⟨rfl, rfl⟩
  · have hl := size_len s
    have hemp := emp_no s h0
    by_cases h6 : 6 < s.size
    · have E := hide (formB_len (l := s.data.toList) (by omega))
      rw [unhide E]
      go_enter Tryz.func79, Tryz.ntmps79
      go_wp2
      go_ret
      exact ⟨rfl, rfl⟩
    · have h6d : decide ((6 : Int) < (s.size : Int)) = false := by simp; omega
      have hlt0 : 0 < s.size := by omega
      have he := sAt s 0 hlt0
      have hbd := bAt_bd s.data.toList 0
      have S0 := hide (fun w => smI_any (bAt s.data.toList 0) w)
      have OK0 := hide (show okAt s.data.toList 0 = smB (bAt s.data.toList 0) by unfold okAt; simp)
      obtain ⟨q, hq⟩ : ∃ q, formB s.data.toList = q := ⟨_, rfl⟩
      have NO := hide (fun k hk h => (formB_no (l := s.data.toList) (k := k) hk h).symm.trans hq)
      have YES := hide (fun h => (formB_all (l := s.data.toList) h).symm.trans hq)
      rw [hl] at NO YES
      have IN := hide (show inB (s.size : Int) 1 6 = true from inB_t _ _ _ (by omega) (by omega))
      rw [hq]
      clear hq
      generalize smB (bAt s.data.toList 0) = p at S0 OK0
      have HE := hide he
      generalize bAt s.data.toList 0 = c0 at he hbd S0
      cases p
      · have E := hide (unhide NO 0 hlt0 (unhide OK0))
        go_enter Tryz.func79, Tryz.ntmps79
        go_wp2_with (go_at_call 87; refine (unhide S0 _).mono ?_; rintro e w' ⟨rfl, rfl⟩)
        go_ret
        exact ⟨by rw [← unhide E]; rfl, rfl⟩
      · go_enter Tryz.func79, Tryz.ntmps79
        go_wp2_with (go_at_call 87; refine (unhide S0 _).mono ?_; rintro e w' ⟨rfl, rfl⟩)
        clear he hbd S0
        go_loop [19] (fun i => ∃ k : Nat, i = .int .i64 k ∧ k ≤ s.size ∧ Hid (∀ j, j < k → okAt s.data.toList j = true)) (fun i => s.size - (intOf i).toNat)
        case atStart => exact ⟨0, rfl, by omega, fun j hj => by omega⟩
        case round =>
          obtain ⟨k, rfl, hk, hd⟩ := hrel
          by_cases hlt : k < s.size
          · have he := sAt s k hlt
            have hbd := bAt_bd s.data.toList k
            have N1 := hide (unhide NO k hlt)
            have hd1 : ldB (bAt s.data.toList k) = true → ∀ j, j < k + 1 → okAt s.data.toList j = true := fun h j hj => by
              by_cases e : j = k
              · subst e
                by_cases hz : j = 0
                · subst hz; exact unhide OK0
                · unfold okAt; rw [decide_eq_true (by omega), Bool.true_and]; exact h
              · exact hd.out j (by omega)
            have HD := hide hd1
            have L1 := hide (fun w => ldI_any (bAt s.data.toList k) w)
            have OK := hide (show ldB (bAt s.data.toList k) = false → okAt s.data.toList k = false from fun h => by
              unfold ldB at h
              rw [Bool.or_eq_false_iff] at h
              unfold okAt
              rw [h.1, h.2]; simp)
            generalize ldB (bAt s.data.toList k) = p at L1 OK HD
            generalize bAt s.data.toList k = c at he hbd L1
            clear hd hd1
            cases p
            · have E := hide (unhide N1 (unhide OK rfl))
              go_wp2_with (go_at_call 88; refine (unhide L1 _).mono ?_; rintro e w' ⟨rfl, rfl⟩)
              go_ret
              exact ⟨by rw [← unhide E]; rfl, rfl⟩
            · have HE2 := hide (unhide HD rfl)
              go_wp2_with (go_at_call 88; refine (unhide L1 _).mono ?_; rintro e w' ⟨rfl, rfl⟩)
              go_round
              case rel => exact ⟨k + 1, by go_num, by omega, unhide HE2⟩
              case measure => simp [intOf]; omega
          · have E := hide ((unhide IN).symm.trans (unhide YES (fun j hj => hd.out j (by omega))))
            clear hd
            go_wp2
            go_ret
            exact ⟨by rw [← unhide E]; rfl, rfl⟩
end Go.Proofs.YtmhcbehplhfgfaaGreatDoor

namespace Go.Proofs.YtmhcbehplhfgfaaGreatDoor
open Go.ChangeShapes Go.WideShapes Go.ChangeAt Go.RowKit
set_option linter.unusedVariables false
set_option maxRecDepth 8000
theorem wpList_index_at {P : Program} {ops : Array Oper} {rest : List Oper} {o : Oper} {a : Act} {w : World} {Q : Exit → Act → World → Prop} (hgd : o.guard = none) (xt : TypeId) (x ix : Operand) (ho : o.op = .index xt x ix) (cs : Array Value) (i : Int) (v : Value)
    (hx : a.eval x = .agg cs) (hi : a.eval ix = .int .i64 i) (hr : ∀ w, (Instr.index xt (.agg cs) (.int .i64 i)).run P w = .ok v w) (h : wpList P ops Q rest (a.put o.dst v) w) : wpList P ops Q (o :: rest) a w :=
  wpList_plain hgd fun _ hK => by
    unfold Oper.wp execOp
    simp only [ho, hx, hi, hr, Sem.run_bind, Sem.run_pure, Result.andThen_ok]
    exact hK _ _ h
def eqS (a b : ByteArray) : Bool := a.toList == b.toList
theorem eqS_iff (a b : ByteArray) : eqS a b = true ↔ a = b := by
  unfold eqS
  rw [ByteArray.toList_eq, ByteArray.toList_eq]
  exact ⟨fun h => bytes_inj (eq_of_beq h), fun h => by rw [h]; exact beq_self_eq_true _⟩
def E0 : ByteArray := ⟨#[]⟩
/-- Is a text among these? -/
def hasS (L : List ByteArray) (s : ByteArray) : Bool := L.any (fun t => eqS t s)
theorem hasS_hit {L : List ByteArray} {s : ByteArray} {k : Nat} (h : k < L.length) (he : eqS (L.getD k E0) s = true) : hasS L s = true := by
  unfold hasS
  rw [List.any_eq_true]
  refine ⟨L[k], List.getElem_mem _, ?_⟩
  rw [List.getD_eq_getElem?_getD, List.getElem?_eq_getElem h] at he
  exact he
theorem hasS_miss {L : List ByteArray} {s : ByteArray} (h : ∀ k, k < L.length → eqS (L.getD k E0) s = false) : hasS L s = false := by
  unfold hasS
  rw [List.any_eq_false]
  intro t ht
  obtain ⟨k, hk, rfl⟩ := List.getElem_of_mem ht
  have := h k hk
  rw [List.getD_eq_getElem?_getD, List.getElem?_eq_getElem hk] at this
  simp only [Option.getD_some] at this
  rw [this]
  decide
theorem hasS_iff {L : List ByteArray} {s : ByteArray} : hasS L s = true ↔ s ∈ L := by
  unfold hasS
  rw [List.any_eq_true]
  constructor
  · rintro ⟨t, ht, he⟩
    rw [eqS_iff] at he
    exact he ▸ ht
  · exact fun h => ⟨s, h, (eqS_iff _ _).2 rfl⟩
def wOp : List ByteArray := [⟨#[109, 111, 118]⟩, ⟨#[99, 109, 112]⟩, ⟨#[98, 105, 99]⟩, ⟨#[98, 105, 115]⟩, ⟨#[97, 100, 100]⟩, ⟨#[115, 117, 98]⟩, ⟨#[99, 108, 114]⟩, ⟨#[105, 110, 99]⟩, ⟨#[100, 101, 99]⟩, ⟨#[110, 101, 103]⟩, ⟨#[116, 115, 116]⟩, ⟨#[97, 115, 114]⟩, ⟨#[97, 115, 108]⟩, ⟨#[106, 109, 112]⟩, ⟨#[106, 115, 114]⟩, ⟨#[114, 116, 115]⟩, ⟨#[98, 114]⟩, ⟨#[98, 110, 101]⟩, ⟨#[98, 101, 113]⟩, ⟨#[98, 103, 101]⟩, ⟨#[98, 108, 116]⟩, ⟨#[104, 97, 108, 116]⟩, ⟨#[101, 109, 116]⟩]
def wRg : List ByteArray := [⟨#[114, 48]⟩, ⟨#[114, 49]⟩, ⟨#[114, 50]⟩, ⟨#[114, 51]⟩, ⟨#[114, 52]⟩, ⟨#[114, 53]⟩, ⟨#[115, 112]⟩, ⟨#[112, 99]⟩]
def opL : List ByteArray := E0 :: wOp
def keptL : List ByteArray := wOp ++ wRg
/-- Is a text a kept word? -/
def keptB (s : ByteArray) : Bool := hasS keptL s
theorem keptB_op {s : ByteArray} (h0 : s.size ≠ 0) {k : Nat} (hk : k < 24) (he : eqS (opL.getD k E0) s = true) : keptB s = true := by
  have h1 : s ∈ opL := hasS_iff.1 (hasS_hit (L := opL) hk he)
  unfold keptB
  rw [hasS_iff]
  unfold opL at h1
  rcases List.mem_cons.1 h1 with e | h
  · rw [e] at h0; exact absurd rfl h0
  · exact List.mem_append_left _ h
theorem keptB_rg {s : ByteArray} {k : Nat} (hk : k < 8) (he : eqS (wRg.getD k E0) s = true) : keptB s = true := by
  have h1 : s ∈ wRg := hasS_iff.1 (hasS_hit (L := wRg) hk he)
  unfold keptB
  rw [hasS_iff]
  exact List.mem_append_right _ h1
theorem keptB_no {s : ByteArray} (h1 : ∀ k, k < 24 → eqS (opL.getD k E0) s = false) (h2 : ∀ k, k < 8 → eqS (wRg.getD k E0) s = false) : keptB s = false := by
  cases h : keptB s
  · rfl
  · unfold keptB at h
    rw [hasS_iff] at h
    rcases List.mem_append.1 h with h | h
    · have e := hasS_iff.2 (List.mem_cons_of_mem E0 h)
      rw [hasS_miss (L := E0 :: wOp) h1] at e
      cases e
    · have e := hasS_iff.2 h
      rw [hasS_miss (L := wRg) h2] at e
      cases e
theorem keptB_empty : keptB ⟨#[]⟩ = false := by decide +kernel
/-- Where a text stands among these, or -1. -/
def atV (L : List ByteArray) (s : ByteArray) : Int := if hasS L s = true then ((L.findIdx (fun t => eqS t s) : Nat) : Int) else -1
theorem atV_yes {L : List ByteArray} {s : ByteArray} (h : hasS L s = true) : 0 ≤ atV L s := by unfold atV; rw [if_pos h]; omega
theorem atV_no {L : List ByteArray} {s : ByteArray} (h : hasS L s = false) : atV L s = -1 := by unfold atV; rw [h]; rfl
theorem atV_hit {L : List ByteArray} {s : ByteArray} {k : Nat} (hk : k < L.length) (hm : ∀ j, j < k → eqS (L.getD j E0) s = false) (he : eqS (L.getD k E0) s = true) : atV L s = k := by
  unfold atV
  rw [if_pos (hasS_hit hk he)]
  have : L.findIdx (fun t => eqS t s) = k := by
    rw [List.findIdx_eq hk]
    refine ⟨?_, fun j hj => ?_⟩
    · rw [List.getD_eq_getElem?_getD, List.getElem?_eq_getElem hk] at he
      exact he
    · have := hm j hj
      rw [List.getD_eq_getElem?_getD, List.getElem?_eq_getElem (by omega)] at this
      exact this
  rw [this]
/-- A row of texts. -/
def RdS (w : World) (g : Nat) (L : List ByteArray) : Prop := ∀ j, j < L.length → w.cell? ⟨g, j, none⟩ = some (.string (L.getD j E0))
set_option maxHeartbeats 400000 in
theorem at_any (L : List ByteArray) (s : ByteArray) (g n cap : Nat) (w : World) (hn : L.length = n) (hm : n ≤ 1000000) (hr : RdS w g L) : Calls Tryz.prog 54 #[.slice (some ⟨g, 0, none⟩) n cap, .string s] w fun e w' => e = .returned (.int .i64 (atV L s)) ∧ w' = w := by
  obtain ⟨v, hv⟩ : ∃ v, atV L s = v := ⟨_, rfl⟩
  have HIT := hide (fun k (hk : k < n) hm he => (atV_hit (L := L) (s := s) (k := k) (by omega) hm he).symm.trans hv)
  have MISS := hide (fun (h : ∀ k, k < n → eqS (L.getD k E0) s = false) => (atV_no (L := L) (s := s) (hasS_miss (fun k hk => h k (by omega)))).symm.trans hv)
  have RD := hide (fun j (hj : j < n) => hr j (by omega))
  rw [hv]
  clear hv hr
  go_enter Tryz.func54, Tryz.ntmps54
  go_wp2
  go_loop [5] (fun i => ∃ k : Nat, i = .int .i64 k ∧ k ≤ n ∧ Hid (∀ j, j < k → eqS (L.getD j E0) s = false)) (fun i => n - (intOf i).toNat)
  case atStart => exact ⟨0, rfl, by omega, fun j hj => by omega⟩
  case round =>
    obtain ⟨k, rfl, hk, hd⟩ := hrel
    by_cases hlt : k < n
    · have hc := unhide RD k hlt
      have H1 := hide (unhide HIT k hlt hd.out)
      have H2 := hide (show eqS (L.getD k E0) s = false → ∀ j, j < k + 1 → eqS (L.getD j E0) s = false from fun h j hj => by
        by_cases e : j = k
        · subst e; exact h
        · exact hd.out j (by omega))
      generalize L.getD k E0 = T at hc H1 H2
      clear hd
      cases hq : (T.toList == s.toList)
      · have E := hide (unhide H2 hq)
        clear H1 H2
        go_wp2
        go_round
        case rel => exact ⟨k + 1, by go_num, by omega, unhide E⟩
        case measure => simp [intOf]; omega
      · have E := hide (unhide H1 hq)
        clear H1 H2
        go_wp2
        go_ret
        exact ⟨by rw [← unhide E]; rfl, rfl⟩
    · have E := hide (unhide MISS (fun j hj => hd.out j (by omega)))
      clear hd
      go_wp2
      go_ret
      exact ⟨by rw [← unhide E]; rfl, rfl⟩
set_option maxHeartbeats 400000 in
theorem kept_any (w : World) : Calls Tryz.prog 55 #[] w fun e w' => e = .returned (.slice (some ⟨w.heap.size, 0, none⟩) 31 31) ∧ RdS w' w.heap.size keptL ∧ Below w.heap.size w w' := by
  have HR := hide (show RdS (w.alloc (.cells (keptL.map Value.string).toArray 9)) w.heap.size keptL from fun j hj => by
    rw [World.cell?_alloc_at _ _ _ _ rfl, List.getElem?_toArray, List.getElem?_map]
    rw [List.getElem?_eq_getElem hj, List.getD_eq_getElem?_getD, List.getElem?_eq_getElem hj]
    rfl)
  have HB := hide ((Below.refl w.heap.size w).alloc (Nat.le_refl _) (.cells (keptL.map Value.string).toArray 9))
  go_enter Tryz.func55, Tryz.ntmps55
  go_wp2
  go_ret
  exact ⟨rfl, unhide HR, unhide HB⟩
end Go.Proofs.YtmhcbehplhfgfaaGreatDoor

namespace Go.Proofs.YtmhcbehplhfgfaaGreatDoor
open Go.ChangeShapes Go.WideShapes Go.ChangeAt Go.RowKit
set_option linter.unusedVariables false
set_option maxRecDepth 8000
def opC : Array Value := (opL.map Value.string).toArray
def rgC : Array Value := (wRg.map Value.string).toArray
/-- The program's tables of kept words stand as its text lays them. -/
def TabK (w : World) : Prop := (∃ t fr, w.heap[0]? = some (.cells opC t fr)) ∧ (∃ t fr, w.heap[2]? = some (.cells rgC t fr))
theorem TabK.later {w w' : World} {B : Nat} (h : TabK w) (hb : Below B w w') (h0 : 0 < B) (h1 : 2 < B) : TabK w' := by
  obtain ⟨⟨t, f, e⟩, ⟨t', f', e'⟩⟩ := h
  exact ⟨⟨t, f, (hb.block _ h0).trans e⟩, ⟨t', f', (hb.block _ h1).trans e'⟩⟩
theorem TabK.lt {w : World} (h : TabK w) : 0 < w.heap.size ∧ 2 < w.heap.size := by
  obtain ⟨⟨t, f, e⟩, ⟨t', f', e'⟩⟩ := h
  exact ⟨(Array.getElem?_eq_some_iff.1 e).1, (Array.getElem?_eq_some_iff.1 e').1⟩
theorem TabK.next {w w' : World} (h : TabK w) (hb : Below w.heap.size w w') : TabK w' := h.later hb h.lt.1 h.lt.2
theorem ixO_0 (w : World) : (Instr.index 81 (.agg opC) (.int .i64 ((0 : Nat) : Int))).run Tryz.prog w = .ok (.string (opL.getD 0 E0)) w := by kernel_rfl
theorem ixO_1 (w : World) : (Instr.index 81 (.agg opC) (.int .i64 ((1 : Nat) : Int))).run Tryz.prog w = .ok (.string (opL.getD 1 E0)) w := by kernel_rfl
theorem ixO_2 (w : World) : (Instr.index 81 (.agg opC) (.int .i64 ((2 : Nat) : Int))).run Tryz.prog w = .ok (.string (opL.getD 2 E0)) w := by kernel_rfl
theorem ixO_3 (w : World) : (Instr.index 81 (.agg opC) (.int .i64 ((3 : Nat) : Int))).run Tryz.prog w = .ok (.string (opL.getD 3 E0)) w := by kernel_rfl
theorem ixO_4 (w : World) : (Instr.index 81 (.agg opC) (.int .i64 ((4 : Nat) : Int))).run Tryz.prog w = .ok (.string (opL.getD 4 E0)) w := by kernel_rfl
theorem ixO_5 (w : World) : (Instr.index 81 (.agg opC) (.int .i64 ((5 : Nat) : Int))).run Tryz.prog w = .ok (.string (opL.getD 5 E0)) w := by kernel_rfl
theorem ixO_6 (w : World) : (Instr.index 81 (.agg opC) (.int .i64 ((6 : Nat) : Int))).run Tryz.prog w = .ok (.string (opL.getD 6 E0)) w := by kernel_rfl
theorem ixO_7 (w : World) : (Instr.index 81 (.agg opC) (.int .i64 ((7 : Nat) : Int))).run Tryz.prog w = .ok (.string (opL.getD 7 E0)) w := by kernel_rfl
theorem ixO_8 (w : World) : (Instr.index 81 (.agg opC) (.int .i64 ((8 : Nat) : Int))).run Tryz.prog w = .ok (.string (opL.getD 8 E0)) w := by kernel_rfl
theorem ixO_9 (w : World) : (Instr.index 81 (.agg opC) (.int .i64 ((9 : Nat) : Int))).run Tryz.prog w = .ok (.string (opL.getD 9 E0)) w := by kernel_rfl
theorem ixO_10 (w : World) : (Instr.index 81 (.agg opC) (.int .i64 ((10 : Nat) : Int))).run Tryz.prog w = .ok (.string (opL.getD 10 E0)) w := by kernel_rfl
theorem ixO_11 (w : World) : (Instr.index 81 (.agg opC) (.int .i64 ((11 : Nat) : Int))).run Tryz.prog w = .ok (.string (opL.getD 11 E0)) w := by kernel_rfl
theorem ixO_12 (w : World) : (Instr.index 81 (.agg opC) (.int .i64 ((12 : Nat) : Int))).run Tryz.prog w = .ok (.string (opL.getD 12 E0)) w := by kernel_rfl
theorem ixO_13 (w : World) : (Instr.index 81 (.agg opC) (.int .i64 ((13 : Nat) : Int))).run Tryz.prog w = .ok (.string (opL.getD 13 E0)) w := by kernel_rfl
theorem ixO_14 (w : World) : (Instr.index 81 (.agg opC) (.int .i64 ((14 : Nat) : Int))).run Tryz.prog w = .ok (.string (opL.getD 14 E0)) w := by kernel_rfl
theorem ixO_15 (w : World) : (Instr.index 81 (.agg opC) (.int .i64 ((15 : Nat) : Int))).run Tryz.prog w = .ok (.string (opL.getD 15 E0)) w := by kernel_rfl
theorem ixO_16 (w : World) : (Instr.index 81 (.agg opC) (.int .i64 ((16 : Nat) : Int))).run Tryz.prog w = .ok (.string (opL.getD 16 E0)) w := by kernel_rfl
theorem ixO_17 (w : World) : (Instr.index 81 (.agg opC) (.int .i64 ((17 : Nat) : Int))).run Tryz.prog w = .ok (.string (opL.getD 17 E0)) w := by kernel_rfl
theorem ixO_18 (w : World) : (Instr.index 81 (.agg opC) (.int .i64 ((18 : Nat) : Int))).run Tryz.prog w = .ok (.string (opL.getD 18 E0)) w := by kernel_rfl
theorem ixO_19 (w : World) : (Instr.index 81 (.agg opC) (.int .i64 ((19 : Nat) : Int))).run Tryz.prog w = .ok (.string (opL.getD 19 E0)) w := by kernel_rfl
theorem ixO_20 (w : World) : (Instr.index 81 (.agg opC) (.int .i64 ((20 : Nat) : Int))).run Tryz.prog w = .ok (.string (opL.getD 20 E0)) w := by kernel_rfl
theorem ixO_21 (w : World) : (Instr.index 81 (.agg opC) (.int .i64 ((21 : Nat) : Int))).run Tryz.prog w = .ok (.string (opL.getD 21 E0)) w := by kernel_rfl
theorem ixO_22 (w : World) : (Instr.index 81 (.agg opC) (.int .i64 ((22 : Nat) : Int))).run Tryz.prog w = .ok (.string (opL.getD 22 E0)) w := by kernel_rfl
theorem ixO_23 (w : World) : (Instr.index 81 (.agg opC) (.int .i64 ((23 : Nat) : Int))).run Tryz.prog w = .ok (.string (opL.getD 23 E0)) w := by kernel_rfl
theorem ixO (k : Nat) (h : k < 24) (w : World) : (Instr.index 81 (.agg opC) (.int .i64 k)).run Tryz.prog w = .ok (.string (opL.getD k E0)) w := by
  have hk : k = 0 ∨ k = 1 ∨ k = 2 ∨ k = 3 ∨ k = 4 ∨ k = 5 ∨ k = 6 ∨ k = 7 ∨ k = 8 ∨ k = 9 ∨ k = 10 ∨ k = 11 ∨ k = 12 ∨ k = 13 ∨ k = 14 ∨ k = 15 ∨ k = 16 ∨ k = 17 ∨ k = 18 ∨ k = 19 ∨ k = 20 ∨ k = 21 ∨ k = 22 ∨ k = 23 := by omega
  rcases hk with rfl | rfl | rfl | rfl | rfl | rfl | rfl | rfl | rfl | rfl | rfl | rfl | rfl | rfl | rfl | rfl | rfl | rfl | rfl | rfl | rfl | rfl | rfl | rfl
  · exact ixO_0 w
  · exact ixO_1 w
  · exact ixO_2 w
  · exact ixO_3 w
  · exact ixO_4 w
  · exact ixO_5 w
  · exact ixO_6 w
  · exact ixO_7 w
  · exact ixO_8 w
  · exact ixO_9 w
  · exact ixO_10 w
  · exact ixO_11 w
  · exact ixO_12 w
  · exact ixO_13 w
  · exact ixO_14 w
  · exact ixO_15 w
  · exact ixO_16 w
  · exact ixO_17 w
  · exact ixO_18 w
  · exact ixO_19 w
  · exact ixO_20 w
  · exact ixO_21 w
  · exact ixO_22 w
  · exact ixO_23 w
theorem ixR_0 (w : World) : (Instr.index 112 (.agg rgC) (.int .i64 ((0 : Nat) : Int))).run Tryz.prog w = .ok (.string (wRg.getD 0 E0)) w := by kernel_rfl
theorem ixR_1 (w : World) : (Instr.index 112 (.agg rgC) (.int .i64 ((1 : Nat) : Int))).run Tryz.prog w = .ok (.string (wRg.getD 1 E0)) w := by kernel_rfl
theorem ixR_2 (w : World) : (Instr.index 112 (.agg rgC) (.int .i64 ((2 : Nat) : Int))).run Tryz.prog w = .ok (.string (wRg.getD 2 E0)) w := by kernel_rfl
theorem ixR_3 (w : World) : (Instr.index 112 (.agg rgC) (.int .i64 ((3 : Nat) : Int))).run Tryz.prog w = .ok (.string (wRg.getD 3 E0)) w := by kernel_rfl
theorem ixR_4 (w : World) : (Instr.index 112 (.agg rgC) (.int .i64 ((4 : Nat) : Int))).run Tryz.prog w = .ok (.string (wRg.getD 4 E0)) w := by kernel_rfl
theorem ixR_5 (w : World) : (Instr.index 112 (.agg rgC) (.int .i64 ((5 : Nat) : Int))).run Tryz.prog w = .ok (.string (wRg.getD 5 E0)) w := by kernel_rfl
theorem ixR_6 (w : World) : (Instr.index 112 (.agg rgC) (.int .i64 ((6 : Nat) : Int))).run Tryz.prog w = .ok (.string (wRg.getD 6 E0)) w := by kernel_rfl
theorem ixR_7 (w : World) : (Instr.index 112 (.agg rgC) (.int .i64 ((7 : Nat) : Int))).run Tryz.prog w = .ok (.string (wRg.getD 7 E0)) w := by kernel_rfl
theorem ixR (k : Nat) (h : k < 8) (w : World) : (Instr.index 112 (.agg rgC) (.int .i64 k)).run Tryz.prog w = .ok (.string (wRg.getD k E0)) w := by
  have hk : k = 0 ∨ k = 1 ∨ k = 2 ∨ k = 3 ∨ k = 4 ∨ k = 5 ∨ k = 6 ∨ k = 7 := by omega
  rcases hk with rfl | rfl | rfl | rfl | rfl | rfl | rfl | rfl
  · exact ixR_0 w
  · exact ixR_1 w
  · exact ixR_2 w
  · exact ixR_3 w
  · exact ixR_4 w
  · exact ixR_5 w
  · exact ixR_6 w
  · exact ixR_7 w
theorem szO : (Tryz.prog.info? 81).map (·.size) = some opC.size := by kernel_rfl
theorem szR : (Tryz.prog.info? 112).map (·.size) = some rgC.size := by kernel_rfl
set_option maxHeartbeats 1000000 in
theorem keptI_any (s : ByteArray) (w : World) (ht : TabK w) : Calls Tryz.prog 67 #[.string s] w fun e w' => e = .returned (.bool (keptB s)) ∧ w' = w := by
  by_cases h0 : s.size = 0
  · obtain rfl := empty_of s h0
    rw [keptB_empty]
    go_enter Tryz.func67, Tryz.ntmps67
    go_wp2
    go_ret
    exact ⟨rfl, rfl⟩
  · have hemp := emp_no s h0
    obtain ⟨⟨t0, f0, R0⟩, ⟨t1, f1, R1⟩⟩ := ht
    obtain ⟨q, hq⟩ : ∃ q, keptB s = q := ⟨_, rfl⟩
    have HO := hide (fun k hk he => (keptB_op (s := s) h0 (k := k) hk he).symm.trans hq)
    have HR := hide (fun k hk he => (keptB_rg (s := s) (k := k) hk he).symm.trans hq)
    have HN := hide (fun h1 h2 => (keptB_no (s := s) h1 h2).symm.trans hq)
    rw [hq]
    have R0' := hide R0
    have R1' := hide R1
    clear hq R0 R1
    go_enter Tryz.func67, Tryz.ntmps67
    go_wp2_with (refine wpList_load_row rfl 81 _ rfl 0 rfl t0 opC f0 _ (unhide R0') Tryz.underlying81 rfl szO ?_)
    go_loop [10] (fun i => ∃ k : Nat, i = .int .i64 k ∧ k ≤ 24 ∧ Hid (∀ j, j < k → eqS (opL.getD j E0) s = false)) (fun i => 24 - (intOf i).toNat)
    case atStart => exact ⟨0, rfl, by omega, fun j hj => by omega⟩
    case round =>
      obtain ⟨k, rfl, hk, hd⟩ := hrel
      by_cases hlt : k < 24
      · have IX := hide (ixO k hlt)
        have H1 := hide (unhide HO k hlt)
        have H2 := hide (show eqS (opL.getD k E0) s = false → ∀ j, j < k + 1 → eqS (opL.getD j E0) s = false from fun h j hj => by
          by_cases e : j = k
          · subst e; exact h
          · exact hd.out j (by omega))
        generalize opL.getD k E0 = T at IX H1 H2
        clear hd HO HR HN
        cases hq : (T.toList == s.toList)
        · have E := hide (unhide H2 hq)
          clear H1 H2
          go_wp2_with (refine wpList_index_at rfl 81 _ _ rfl _ _ _ rfl rfl (unhide IX) ?_)
          go_round
          case rel => exact ⟨k + 1, by go_num, by omega, unhide E⟩
          case measure => simp [intOf]; omega
        · have E := hide (unhide H1 hq)
          clear H1 H2
          go_wp2_with (refine wpList_index_at rfl 81 _ _ rfl _ _ _ rfl rfl (unhide IX) ?_)
          go_ret
          exact ⟨by rw [← unhide E]; rfl, rfl⟩
      · have HN2 := hide (unhide HN (fun j hj => hd.out j (by omega)))
        clear hd HN HO
        go_wp2_with (refine wpList_load_row rfl 112 _ rfl 2 rfl t1 rgC f1 _ (unhide R1') Tryz.underlying112 rfl szR ?_)
        go_loop [18] (fun i => ∃ k : Nat, i = .int .i64 k ∧ k ≤ 8 ∧ Hid (∀ j, j < k → eqS (wRg.getD j E0) s = false)) (fun i => 8 - (intOf i).toNat)
        case atStart => exact ⟨0, rfl, by omega, fun j hj => by omega⟩
        case round =>
          clear hlt hk
          obtain ⟨k, rfl, hk, hd⟩ := hrel
          by_cases hlt : k < 8
          · have IX := hide (ixR k hlt)
            have H1 := hide (unhide HR k hlt)
            have H2 := hide (show eqS (wRg.getD k E0) s = false → ∀ j, j < k + 1 → eqS (wRg.getD j E0) s = false from fun h j hj => by
              by_cases e : j = k
              · subst e; exact h
              · exact hd.out j (by omega))
            generalize wRg.getD k E0 = T at IX H1 H2
            clear hd HR HN2
            cases hq : (T.toList == s.toList)
            · have E := hide (unhide H2 hq)
              clear H1 H2
              go_wp2_with (refine wpList_index_at rfl 112 _ _ rfl _ _ _ rfl rfl (unhide IX) ?_)
              go_round
              case rel => exact ⟨k + 1, by go_num, by omega, unhide E⟩
              case measure => simp [intOf]; omega
            · have E := hide (unhide H1 hq)
              clear H1 H2
              go_wp2_with (refine wpList_index_at rfl 112 _ _ rfl _ _ _ rfl rfl (unhide IX) ?_)
              go_ret
              exact ⟨by rw [← unhide E]; rfl, rfl⟩
          · have E := hide (unhide HN2 (fun j hj => hd.out j (by omega)))
            clear hd HN2 HR
            go_wp2
            go_ret
            exact ⟨by rw [← unhide E]; rfl, rfl⟩
/-- The marks. -/
def mkL : List UInt8 := [58, 61, 44, 40, 41, 43, 45, 42, 47, 38, 124, 35, 64, 46, 60, 62]
/-- Is a text a mark? -/
def markB : List UInt8 → Bool
  | [c] => mkL.contains c
  | _ => false
end Go.Proofs.YtmhcbehplhfgfaaGreatDoor

namespace Go.Proofs.YtmhcbehplhfgfaaGreatDoor
open Go.ChangeShapes Go.WideShapes Go.ChangeAt Go.RowKit
set_option linter.unusedVariables false
set_option maxRecDepth 8000
/-- A dot and a name's form. -/
def dotB : List UInt8 → Bool
  | 46 :: t => formB t
  | _ => false
theorem dotB_cons (c : UInt8) (t : List UInt8) : dotB (c :: t) = (c == 46 && formB t) := by
  by_cases h : c = 46
  · subst h; rfl
  · rw [beq_eq_false_iff_ne.2 h, Bool.false_and]
    unfold dotB
    split
    · rename_i e; exact absurd (List.cons.inj e).1 h
    · rfl
/-- A token. -/
structure Tk where
  k : Int
  n : Int
  s : ByteArray
def Tk.cs (t : Tk) : Array Value := #[.int .i64 t.k, .int .i64 t.n, .string t.s]
def Tk.v (t : Tk) : Value := .agg t.cs
def nameB (s : ByteArray) : Bool := formB s.data.toList && !keptB s
/-- Is a token right? -/
def Tk.ok (t : Tk) : Bool :=
  if t.k == 2 then inB t.n 0 65535 && decide (t.s.size = 0)
  else if t.n != 0 then false
  else if t.k == 1 then nameB t.s
  else if t.k == 3 then dotB t.s.data.toList
  else if t.k == 4 then markB t.s.data.toList
  else if t.k == 5 then keptB t.s
  else false
set_option maxHeartbeats 1000000 in
theorem nameI_any (s : ByteArray) (w : World) (hmax : s.size ≤ 1099511627776) (ht : TabK w) : Calls Tryz.prog 63 #[.string s] w fun e w' => e = .returned (.bool (nameB s)) ∧ w' = w := by
  have H1 := hide (formI_any s w hmax)
  have H2 := hide (keptI_any s w ht)
  unfold nameB
  generalize formB s.data.toList = p at *
  generalize keptB s = q at *
  clear ht
  cases p
  · go_enter Tryz.func63, Tryz.ntmps63
    go_wp2_with (first | (go_at_call 79; refine (unhide H1).mono ?_; rintro e w' ⟨rfl, rfl⟩) | (go_at_call 67; refine (unhide H2).mono ?_; rintro e w' ⟨rfl, rfl⟩))
    go_ret
    exact ⟨rfl, rfl⟩
  · go_enter Tryz.func63, Tryz.ntmps63
    go_wp2_with (first | (go_at_call 79; refine (unhide H1).mono ?_; rintro e w' ⟨rfl, rfl⟩) | (go_at_call 67; refine (unhide H2).mono ?_; rintro e w' ⟨rfl, rfl⟩))
    go_ret
    exact ⟨rfl, rfl⟩
set_option maxHeartbeats 1000000 in
theorem nameS_any (s : ByteArray) (w : World) (hmax : s.size ≤ 1099511627776) : Calls Tryz.prog 26 #[.string s] w fun e w' => e = .returned (.bool (nameB s)) ∧ Below w.heap.size w w' := by
  have H1 := hide (formS_any s w hmax)
  have HY := hide (fun h => atV_yes (L := keptL) (s := s) h)
  have HN := hide (fun h => atV_no (L := keptL) (s := s) h)
  have HA := hide (fun w1 (hr : RdS w1 w.heap.size keptL) => at_any keptL s w.heap.size 31 31 w1 rfl (by omega) hr)
  have HK := hide (kept_any w)
  unfold nameB keptB
  generalize formB s.data.toList = p at *
  generalize hasS keptL s = q at *
  generalize atV keptL s = v at *
  cases p
  · go_enter Tryz.func26, Tryz.ntmps26
    go_wp2_with (go_at_call 53; refine (unhide H1).mono ?_; rintro e w' ⟨rfl, rfl⟩)
    go_ret
    exact ⟨rfl, Below.refl _ _⟩
  · have E := hide (show (decide (v < 0)) = !q by
      cases q
      · rw [unhide HN rfl]; rfl
      · have := unhide HY rfl
        simp
        omega)
    go_enter Tryz.func26, Tryz.ntmps26
    go_wp2_with (first | (go_at_call 53; refine (unhide H1).mono ?_; rintro e w' ⟨rfl, rfl⟩) | (go_at_call 55; refine (unhide HK).mono ?_; rintro e w1 ⟨rfl, hr1, hb1⟩) | (go_at_call 54; refine (unhide HA _ hr1).mono ?_; rintro e w' ⟨rfl, rfl⟩))
    go_ret
    exact ⟨by rw [← unhide E]; rfl, hb1⟩
theorem below_new (w : World) (o : Obj) : Below w.heap.size w (w.alloc o) := (Below.refl _ _).alloc (Nat.le_refl _) _
end Go.Proofs.YtmhcbehplhfgfaaGreatDoor

namespace Go.Proofs.YtmhcbehplhfgfaaGreatDoor
open Go.ChangeShapes Go.WideShapes Go.ChangeAt Go.RowKit
set_option linter.unusedVariables false
set_option maxRecDepth 8000
theorem own : ownKnob Tryz.prog.godebug = none := by kernel_rfl
theorem laidOut : laidOutB Tryz.prog = true := by kernel_rfl
section
variable {H : Type} {enc : TypeId × Value → H} {W : World} {b0 base : Nat} {spare : TypeId → Bool} {held : Bool}
end
/-- A table of texts as a row lists it. -/
def strData {H : Type} (L : List ByteArray) : DataW H := .agg (L.map fun s => .lit (.string s.data.toList))
theorem cells_of_strs {H : Type} {enc : TypeId × Value → H} {P : Program} {w : World} {base : Nat} {sp : Nat → Bool} {held : Bool} {fuel : Nat} {t e : TypeId} {n : Nat} {cs : List Value} {L : List ByteArray} {p : List MemPlace}
    (ht : P.underlying t = some (.array n e)) (he : P.underlying e = some .string) (hce : P.cellsOf e = 1) (hct : P.cellsOf t = n)
    (h : DataW.trod enc P w base sp held fuel t cs = some (strData L, p)) : cs = L.map Value.string := by
  cases fuel with
  | zero => simp [DataW.trod] at h
  | succ fuel =>
    simp only [DataW.trod, ht, hce, hct, Nat.mul_one] at h
    split at h
    · rename_i hl
      obtain ⟨xs, hm, hx⟩ := Option.map_eq_some_iff.1 h
      have hxs : xs.map (·.1) = L.map fun s => (DataW.lit (.string s.data.toList) : DataW H) := by
        have := congrArg Prod.fst hx
        simpa [strData] using this
      have hxl : xs.length = n := by simpa using Lib.mapM_length hm
      have hzl : L.length = n := by
        have := congrArg List.length hxs
        simp at this
        omega
      apply List.ext_getElem?
      intro i
      by_cases hi : i < n
      · obtain ⟨b, hb, hf⟩ := Lib.mapM_at hm i i (by simp [hi])
        obtain ⟨z, hc, rfl, _⟩ := DataW.trod_string he hf
        have h1 : cs[i]? = some (.string z) := by
          have := congrArg (·[0]?) hc
          simpa [List.getElem?_take, List.getElem?_drop] using this
        have h2 : (xs.map (·.1))[i]? = some (DataW.lit (.string z.data.toList) : DataW H) := by simp [hb]
        rw [hxs] at h2
        simp only [List.getElem?_map, Option.map_eq_some_iff, DataW.lit.injEq, Lit.string.injEq] at h2
        obtain ⟨z', hz', e⟩ := h2
        obtain rfl := bytes_inj e
        simp [h1, hz']
      · rw [List.getElem?_eq_none (by omega), List.getElem?_eq_none (by simp; omega)]
    · cases h
theorem strs_of_head {P : Program} {W : World} {name : String} {L : List ByteArray} {rest : List (String × DataW Unit)} {g : Nat} {t e : TypeId} {n : Nat}
    (hg : P.globalNamed name = some g) (hty : (P.globals[g]?).map (·.type) = some t) (ht : P.underlying t = some (.array n e)) (he : P.underlying e = some .string) (hce : P.cellsOf e = 1) (hct : P.cellsOf t = n)
    (h : laidMet P ((name, strData L) :: rest) W) : ∃ u fr, W.heap[g]? = some (.cells (L.map Value.string).toArray u fr) := by
  obtain ⟨ps, ⟨g', t', cs, fuel, p, q, hg', ht', hvar, hd, _, _⟩, _⟩ := h
  obtain rfl := Option.some.inj (hg.symm.trans hg')
  obtain rfl := Option.some.inj (hty.symm.trans ht')
  have hcs := cells_of_strs ht he hce hct hd
  unfold World.var? at hvar
  rw [hg] at hvar
  simp only [Option.bind_some] at hvar
  split at hvar
  · rename_i c u fr hh
    cases hvar
    exact ⟨u, fr, by rw [hh, ← hcs]⟩
  · cases hvar
theorem gOp : Tryz.prog.globalNamed "loop.example/g00329/impl.opWords" = some 0 := by kernel_rfl
theorem tOp : (Tryz.prog.globals[0]?).map (·.type) = some 81 := by kernel_rfl
theorem gRg : Tryz.prog.globalNamed "loop.example/g00329/impl.regWords" = some 2 := by kernel_rfl
theorem tRg : (Tryz.prog.globals[2]?).map (·.type) = some 112 := by kernel_rfl
theorem opD_eq : (Rows.laid_loop_example_g00329_impl_opWords : DataW Unit) = strData opL := by kernel_rfl
theorem rgD_eq : (Rows.laid_loop_example_g00329_impl_regWords : DataW Unit) = strData wRg := by kernel_rfl
end Go.Proofs.YtmhcbehplhfgfaaGreatDoor

namespace Go.Proofs.YtmhcbehplhfgfaaGreatDoor
open Go.ChangeShapes Go.WideShapes Go.ChangeAt Go.RowKit
set_option linter.unusedVariables false
set_option maxRecDepth 8000
theorem grownBy_trans {a b c : World} {r : Option Nat} (h : a.grownBy b r) (k : b.grownBy c r) : a.grownBy c r :=
  ⟨k.os.trans h.os, k.tape.trans h.tape, k.output.trans h.output, Nat.le_trans h.size k.size, fun j hj hn => (k.block j (Nat.lt_of_lt_of_le hj h.size) hn).trans (h.block j hj hn)⟩
end Go.Proofs.YtmhcbehplhfgfaaGreatDoor

namespace Go.Proofs.YtmhcbehplhfgfaaGreatDoor
open Go.ChangeShapes Go.WideShapes Go.ChangeAt Go.RowKit
set_option linter.unusedVariables false
set_option maxRecDepth 8000
/-- A slice with address a reads as the bytes xs in the world w. -/
def Rd (w : World) (a : Option Addr) (xs : List UInt8) : Prop :=
  xs = [] ∨ ∃ b off, a = some ⟨b, off, none⟩ ∧ b < w.heap.size ∧ ∀ i, i < xs.length → w.cell? ⟨b, off + i, none⟩ = some (.int .u8 (bAt xs i))
def cellsB (ys : List UInt8) : List Value := ys.map fun y => .int .u8 (y.toNat : Int)
theorem cellsB_length (ys : List UInt8) : (cellsB ys).length = ys.length := by simp [cellsB]
theorem cellsB_append (a b : List UInt8) : cellsB (a ++ b) = cellsB a ++ cellsB b := by simp [cellsB]
theorem cellsB_get {ys : List UInt8} {j : Nat} {u : Value} (h : (cellsB ys)[j]? = some u) : j < ys.length ∧ u = .int .u8 (bAt ys j) := by
  simp only [cellsB, List.getElem?_map, Option.map_eq_some_iff] at h
  obtain ⟨y, hy, rfl⟩ := h
  have := (List.getElem?_eq_some_iff.1 hy).1
  exact ⟨this, by unfold bAt; rw [List.getD_eq_getElem?_getD, hy]; rfl⟩
/-- v is a slice of the call's own (blocks from B on) that holds the bytes ys. -/
def OwnB (w : World) (B : Nat) (v : Value) (ys : List UInt8) : Prop := w.ownsRow B 5 1 v ys.length (cellsB ys)
theorem rd_cells {w : World} {ad : Addr} {xs : List UInt8} (h : Rd w (some ad) xs) : ∀ j u, (cellsB xs)[j]? = some u → w.cell? (ad.add j) = some u := by
  intro j u hu
  obtain ⟨hj, rfl⟩ := cellsB_get hu
  rcases h with rfl | ⟨b, off, ha, hb, hc⟩
  · simp at hj
  · cases ha
    have := hc j hj
    unfold Addr.add
    by_cases h0 : j = 0
    · subst h0; simpa using this
    · simpa [h0] using this
theorem OwnB.rd {w : World} {B : Nat} {v : Value} {ys : List UInt8} (h : OwnB w B v ys) : ∃ a cap, v = .slice a ys.length cap ∧ ys.length ≤ cap ∧ cap ≤ maxLen ∧ Rd w a ys ∧ (∀ ad, a = some ad → B ≤ ad.block) ∧ (a = none → cap = 0) := by
  obtain ⟨_, ⟨rfl, h0⟩ | ⟨g, cap, cur, rfl, hg, hh, hn, hm, hs, ht⟩⟩ := id h
  · obtain rfl : ys = [] := List.eq_nil_of_length_eq_zero h0
    exact ⟨none, 0, rfl, Nat.le_refl _, Nat.zero_le _, .inl rfl, (fun _ h => by cases h), fun _ => rfl⟩
  · refine ⟨_, cap, rfl, hn, hm, .inr ⟨g, 0, rfl, (Array.getElem?_eq_some_iff.1 hh).1, fun i hi => ?_⟩, (fun ad h => by cases h; exact hg), fun h => by cases h⟩
    have h2 := World.ownsRow.cellAt h i (by omega)
    rw [Nat.zero_add, h2]
    simp only [cellsB, List.getElem?_map, List.getElem?_eq_getElem hi, Option.map_some]
    unfold bAt
    rw [List.getD_eq_getElem?_getD, List.getElem?_eq_getElem hi]
    rfl
theorem OwnB.rd1 {w : World} {B : Nat} {a : Option Addr} {n cap : Nat} {ys : List UInt8} (h : OwnB w B (.slice a n cap) ys) : Rd w a ys := by
  obtain ⟨a', cap', e, _, _, hr, _⟩ := h.rd
  cases e
  exact hr
theorem grownBy_set {w : World} {b o : Nat} (v : Value) : w.grownBy (w.setCell ⟨b, o, none⟩ v) (some b) :=
  ⟨rfl, rfl, rfl, by simp, fun k _ hk => Below.heap_setCell w ⟨b, o, none⟩ v k (fun e => hk (by simp [e]))⟩
end Go.Proofs.YtmhcbehplhfgfaaGreatDoor

namespace Go.Proofs.YtmhcbehplhfgfaaGreatDoor
open Go.ChangeShapes Go.WideShapes Go.ChangeAt Go.RowKit
set_option linter.unusedVariables false
set_option maxRecDepth 8000
/-- A world that keeps what w0 has below B. -/
structure Sub (B : Nat) (w0 : World) where
  w : World
  h : Below B w0 w
theorem Sub.ne (B : Nat) (w0 : World) : Nonempty (Sub B w0) := ⟨⟨w0, Below.refl _ _⟩⟩
section
variable {B : Nat} {w0 : World} {P : Program}
theorem Sub.call {f : FuncId} {args : Array Value} {x : Sub B w0} {v : Value} (hB : B ≤ w0.heap.size) (h : Calls P f args x.w fun e w' => e = .returned v ∧ Below x.w.heap.size x.w w') : Calls P f args x.w fun e w' => e = .returned v ∧ ∃ y : Sub B w0, w' = y.w :=
  h.mono fun e w' ⟨he, hb⟩ => ⟨he, ⟨w', x.h.trans (hb.mono (Nat.le_trans hB x.h.size))⟩, rfl⟩
theorem Sub.same {f : FuncId} {args : Array Value} {x : Sub B w0} {v : Value} (h : Calls P f args x.w fun e w' => e = .returned v ∧ w' = x.w) : Calls P f args x.w fun e w' => e = .returned v ∧ ∃ y : Sub B w0, w' = y.w :=
  h.mono fun e w' ⟨he, hb⟩ => ⟨he, x, hb⟩
theorem wp_region_sub {id : Nat} {Q : Exit → Act → World → Prop} {a : Act} (x : Sub B w0) {l : List Oper} (hm : P.follows .mixedOrders = true) (hB : Region.lexB .any l.toArray = true)
    (h : wpQuiet P l.toArray (fun w' => ∃ y : Sub B w0, w' = y.w) (fun a' => ∀ y : Sub B w0, Q .normal a' y.w) l a) : (Code.region id l.toArray true).wp P Q a x.w :=
  wp_region_quiet (C := fun w' => ∃ y : Sub B w0, w' = y.w) hm hB ⟨⟨_, x.h.drew⟩, rfl⟩ (by
    have e : (fun a' => ∀ w', (∃ y : Sub B w0, w' = y.w) → Q .normal a' w') = (fun a' => ∀ y : Sub B w0, Q .normal a' y.w) := by
      funext a'
      apply propext
      constructor
      · intro h y; exact h _ ⟨y, rfl⟩
      · rintro h _ ⟨y, rfl⟩; exact h y
    rw [e]
    simpa using h)
end
end Go.Proofs.YtmhcbehplhfgfaaGreatDoor

namespace Go.Proofs.YtmhcbehplhfgfaaGreatDoor
open Go.ChangeShapes Go.WideShapes Go.ChangeAt Go.RowKit
set_option linter.unusedVariables false
set_option maxRecDepth 8000
def T0 : Tk := ⟨0, 0, E0⟩
def tAt (ts : List Tk) (i : Nat) : Tk := ts.getD i T0
/-- A slice of tokens with address a reads as ts. -/
def RdT (w : World) (a : Option Addr) (ts : List Tk) : Prop :=
  ts = [] ∨ ∃ b off, a = some ⟨b, off, none⟩ ∧ b < w.heap.size ∧ ∀ i, i < ts.length → w.cell? ⟨b, off + i * 3, none⟩ = some (.int .i64 (tAt ts i).k) ∧ w.cell? ⟨b, off + i * 3 + 1, none⟩ = some (.int .i64 (tAt ts i).n) ∧ w.cell? ⟨b, off + i * 3 + 2, none⟩ = some (.string (tAt ts i).s)
/-- The bytes of all texts. -/
def szL : List Tk → Nat
  | [] => 0
  | t :: r => t.s.size + szL r
theorem szL_take (ts : List Tk) (k : Nat) (h : k < ts.length) : szL (ts.take (k + 1)) = szL (ts.take k) + (tAt ts k).s.size := by
  induction ts generalizing k with
  | nil => simp at h
  | cons t r ih =>
    cases k with
    | zero => simp [szL, tAt]
    | succ k =>
      have := ih k (by simpa using h)
      simp only [List.take_succ_cons, szL, this]
      show _ = t.s.size + _ + (tAt r k).s.size
      omega
def cellsT : List Tk → List Value
  | [] => []
  | t :: r => .int .i64 t.k :: .int .i64 t.n :: .string t.s :: cellsT r
theorem cellsT_len (ts : List Tk) : (cellsT ts).length = ts.length * 3 := by
  induction ts with
  | nil => rfl
  | cons t r ih => simp only [cellsT, List.length_cons, ih]; omega
theorem cellsT_app (a b : List Tk) : cellsT (a ++ b) = cellsT a ++ cellsT b := by
  induction a with
  | nil => rfl
  | cons t r ih => simp only [List.cons_append, cellsT, ih]
theorem cellsT_get (ts : List Tk) (i : Nat) (h : i < ts.length) : (cellsT ts)[i * 3]? = some (.int .i64 (tAt ts i).k) ∧ (cellsT ts)[i * 3 + 1]? = some (.int .i64 (tAt ts i).n) ∧ (cellsT ts)[i * 3 + 2]? = some (.string (tAt ts i).s) := by
  induction ts generalizing i with
  | nil => simp at h
  | cons t r ih =>
    cases i with
    | zero => exact ⟨rfl, rfl, rfl⟩
    | succ i =>
      have := ih i (by simpa using h)
      have e : (i + 1) * 3 = i * 3 + 3 := by omega
      rw [e]
      exact this
theorem cellsT_one (ts : List Tk) : ∀ u ∈ cellsT ts, u.oneCell' = true := by
  induction ts with
  | nil => intro u hu; cases hu
  | cons t r ih =>
    intro u hu
    simp only [cellsT, List.mem_cons] at hu
    rcases hu with rfl | rfl | rfl | hu
    · rfl
    · rfl
    · rfl
    · exact ih u hu
/-- v is a slice of the call's own (blocks from B on) that holds the tokens ts. -/
def OwnT (w : World) (B : Nat) (v : Value) (ts : List Tk) : Prop := w.ownsRow B 59 3 v ts.length (cellsT ts)
section
variable {w w' : World} {B : Nat} {v : Value} {ts : List Tk}
theorem OwnT.keep (h : OwnT w B v ts) (hs : ∀ g, v.ownBlock = some g → g < w.heap.size → w'.heap[g]? = w.heap[g]?) : OwnT w' B v ts := by
  obtain ⟨h1, h2 | ⟨g, cap, cur, rfl, hg, hh, r⟩⟩ := h
  · exact ⟨h1, .inl h2⟩
  · exact ⟨h1, .inr ⟨g, cap, cur, rfl, hg, (hs g rfl (Array.getElem?_eq_some_iff.1 hh).1).trans hh, r⟩⟩
theorem OwnT.later (h : OwnT w B v ts) (hb : Below w.heap.size w w') : OwnT w' B v ts := h.keep fun g _ hg => hb.block g hg
theorem OwnT.lt (h : OwnT w B v ts) {g : Nat} (hg : v.ownBlock = some g) : B ≤ g ∧ g < w.heap.size := World.ownsRow.lt h g hg
theorem OwnT.base {B' : Nat} (h : OwnT w B v ts) (hB : B' ≤ B) : OwnT w B' v ts := by
  obtain ⟨h1, h2 | ⟨g, cap, cur, e, hg, r⟩⟩ := h
  · exact ⟨h1, .inl h2⟩
  · exact ⟨h1, .inr ⟨g, cap, cur, e, Nat.le_trans hB hg, r⟩⟩
theorem OwnT.form (h : OwnT w B v ts) : (v = .slice none 0 0 ∧ ts = []) ∨ ∃ g cap, v = .slice (some ⟨g, 0, none⟩) ts.length cap ∧ B ≤ g ∧ g < w.heap.size ∧ ts.length ≤ cap ∧ cap ≤ maxLen := by
  obtain ⟨_, ⟨h1, h2⟩ | ⟨g, cap, cur, rfl, hg, hh, hn, hm, r⟩⟩ := h
  · exact .inl ⟨h1, List.eq_nil_of_length_eq_zero h2⟩
  · exact .inr ⟨g, cap, rfl, hg, (Array.getElem?_eq_some_iff.1 hh).1, hn, hm⟩
theorem OwnT.rd (h : OwnT w B v ts) : ∃ a cap, v = .slice a ts.length cap ∧ RdT w a ts := by
  rcases h.form with ⟨rfl, rfl⟩ | ⟨g, cap, rfl, hg, hl, _, _⟩
  · exact ⟨none, 0, rfl, .inl rfl⟩
  · refine ⟨_, cap, rfl, .inr ⟨g, 0, rfl, hl, fun i hi => ?_⟩⟩
    obtain ⟨e0, e1, e2⟩ := cellsT_get ts i hi
    have c0 := World.ownsRow.cellAt h (i * 3) (by omega)
    have c1 := World.ownsRow.cellAt h (i * 3 + 1) (by omega)
    have c2 := World.ownsRow.cellAt h (i * 3 + 2) (by omega)
    simp only [Nat.zero_add]
    exact ⟨c0.trans e0, c1.trans e1, c2.trans e2⟩
end
end Go.Proofs.YtmhcbehplhfgfaaGreatDoor

namespace Go.Proofs.YtmhcbehplhfgfaaGreatDoor
open Go.ChangeShapes Go.WideShapes Go.ChangeAt Go.RowKit
set_option linter.unusedVariables false
set_option maxRecDepth 8000
/-- The text of a token. -/
def tokL (t : Tk) : List UInt8 := if t.k = 2 then octD (t.n % 65536).toNat else t.s.data.toList
theorem octD_six (n : Int) : (octD (n % 65536).toNat).length ≤ 6 := octD_len _ 5 (by have := Int.emod_lt_of_pos n (show (0 : Int) < 65536 by omega); omega)
theorem tokL_len (t : Tk) : (tokL t).length ≤ t.s.size + 6 := by
  unfold tokL
  split
  · have := octD_six t.n; omega
  · rw [size_len]; omega
/-- The line of so many tokens. -/
def lineT (ts : List Tk) : Nat → List UInt8
  | 0 => []
  | k + 1 => lineT ts k ++ (if k = 0 then [] else [32]) ++ tokL (tAt ts k)
theorem lineT_len (ts : List Tk) : ∀ k, k ≤ ts.length → (lineT ts k).length ≤ szL (ts.take k) + 7 * k
  | 0, _ => by simp [lineT]
  | k + 1, h => by
    have h1 := lineT_len ts k (by omega)
    have h2 := tokL_len (tAt ts k)
    have h3 := szL_take ts k (by omega)
    have h4 : (if k = 0 then ([] : List UInt8) else [32]).length ≤ 1 := by split <;> simp
    simp only [lineT, List.length_append]
    omega
theorem szL_le (ts : List Tk) (k : Nat) : szL (ts.take k) ≤ szL ts := by
  induction ts generalizing k with
  | nil => simp
  | cons t r ih =>
    cases k with
    | zero => simp [szL]
    | succ k => simp only [List.take_succ_cons, szL]; have := ih k; omega
theorem szL_at (ts : List Tk) (k : Nat) (h : k < ts.length) : (tAt ts k).s.size ≤ szL ts := by
  have h1 := szL_take ts k h
  have h2 := szL_le ts (k + 1)
  omega
/-- What LineOf answers. -/
def lineOf (ts : List Tk) : List UInt8 := lineT ts ts.length
set_option maxHeartbeats 2000000 in
theorem lineS_any (a : Option Addr) (len cap : Nat) (ts : List Tk) (w : World) (hl : ts.length = len) (hm : len + szL ts ≤ 1048576) (hr : RdT w a ts) : Calls Tryz.prog 12 #[.slice a len cap] w fun e w' => e = .returned (.string (strOf (lineOf ts))) ∧ Below w.heap.size w w' := by
  unfold lineOf
  rw [hl]
  go_enter Tryz.func12, Tryz.ntmps12
  go_wp2
  go_loopw [3, 4] (fun s i wr => ∃ k : Nat, k ≤ len ∧ i = .int .i64 k ∧ s = .string (strOf (lineT ts k)) ∧ Below w.heap.size w wr) (fun _ i _ => len - (intOf i).toNat)
  case atStart => exact ⟨0, Nat.zero_le _, rfl, rfl, Below.refl _ _⟩
  case round =>
    obtain ⟨k, hk, rfl, rfl, hb⟩ := hrel
    by_cases hlt : k < len
    · rcases hr with h0 | ⟨b, off, rfl, hbl, hc⟩
      · rw [h0] at hl; simp at hl; omega
      obtain ⟨c0, c1, c2⟩ := hc k (by omega)
      have d0 : wr.cell? ⟨b, off + k * 3, none⟩ = _ := (hb.cell (p := ⟨b, _, none⟩) hbl).trans c0
      have d1 : wr.cell? ⟨b, off + k * 3 + 1, none⟩ = _ := (hb.cell (p := ⟨b, _, none⟩) hbl).trans c1
      have d2 : wr.cell? ⟨b, off + k * 3 + 2, none⟩ = _ := (hb.cell (p := ⟨b, _, none⟩) hbl).trans c2
      have OC := hide (octS_any (tAt ts k).n wr)
      have hz1 : (strOf (lineT ts k)).size ≤ 16777216 := by
        rw [strOf_size]
        have := lineT_len ts k (by omega)
        have := szL_le ts k
        omega
      have hz2 : (strOf (octD ((tAt ts k).n % 65536).toNat)).size ≤ 6 := by rw [strOf_size]; exact octD_six _
      have hz3 : (tAt ts k).s.size ≤ 1048576 := by have := szL_at ts k (by omega); omega
      have LT := hide (show strOf (lineT ts (k + 1)) = strOf (lineT ts k) ++ (if k = 0 then ⟨#[]⟩ else ⟨#[32]⟩) ++ strOf (tokL (tAt ts k)) by
        show strOf (lineT ts k ++ (if k = 0 then [] else [32]) ++ tokL (tAt ts k)) = _
        rw [← strOf_append, ← strOf_append]
        congr 2
        split <;> rfl)
      have TL := hide (show strOf (tokL (tAt ts k)) = if (tAt ts k).k = 2 then strOf (octD ((tAt ts k).n % 65536).toNat) else (tAt ts k).s by
        unfold tokL
        split
        · rfl
        · rw [strOf_of])
      rw [unhide TL] at LT
      clear c0 c1 c2 hc TL
      have HB := hide hb
      generalize strOf (lineT ts k) = S1 at hz1 LT ⊢
      generalize strOf (octD ((tAt ts k).n % 65536).toNat) = S2 at hz2 LT OC
      generalize (tAt ts k).s = ss at d2 LT hz3
      generalize (tAt ts k).k = kk at d0 LT
      generalize (tAt ts k).n = nn at d1 OC
      clear hb
      by_cases hk0 : k = 0
      · have LT0 := hide (show strOf (lineT ts (k + 1)) = S1 ++ (if kk = 2 then S2 else ss) by
          have := unhide LT
          rw [if_pos hk0] at this
          rw [this]
          congr 1
          apply ByteArray.ext
          rw [ByteArray.data_append]
          simp)
        have hg0 : decide (0 < k) = false := decide_eq_false (by omega)
        clear hk0
        by_cases hk2 : kk = 2
        · subst hk2
          have LT1 := hide (show strOf (lineT ts (k + 1)) = S1 ++ S2 from unhide LT0)
          clear LT LT0
          go_wp2_with (go_at_call 30; refine (unhide OC).mono ?_; rintro e w5 ⟨rfl, hb5⟩)
          go_roundw
          case rel => exact ⟨k + 1, by omega, by go_num, by rw [unhide LT1], (unhide HB).trans (hb5.mono (unhide HB).size)⟩
          case measure => simp [intOf]; omega
        · have LT1 := hide (show strOf (lineT ts (k + 1)) = S1 ++ ss from (unhide LT0).trans (by rw [if_neg hk2]))
          clear LT LT0 OC
          go_wp2
          go_roundw
          case rel => exact ⟨k + 1, by omega, by go_num, by rw [unhide LT1], unhide HB⟩
          case measure => simp [intOf]; omega
      · have hg0 : (0 : Int) < (k : Int) := by omega
        have LT0 := hide (show strOf (lineT ts (k + 1)) = S1 ++ ⟨#[32]⟩ ++ (if kk = 2 then S2 else ss) by have := unhide LT; rw [if_neg hk0] at this; exact this)
        by_cases hk2 : kk = 2
        · subst hk2
          have LT1 := hide (show strOf (lineT ts (k + 1)) = S1 ++ ⟨#[32]⟩ ++ S2 from unhide LT0)
          clear LT LT0
          go_wp2_with (go_at_call 30; refine (unhide OC).mono ?_; rintro e w5 ⟨rfl, hb5⟩)
          go_roundw
          case rel => exact ⟨k + 1, by omega, by go_num, by rw [unhide LT1], (unhide HB).trans (hb5.mono (unhide HB).size)⟩
          case measure => simp [intOf]; omega
        · have LT1 := hide (show strOf (lineT ts (k + 1)) = S1 ++ ⟨#[32]⟩ ++ ss from (unhide LT0).trans (by rw [if_neg hk2]))
          clear LT LT0 OC
          go_wp2
          go_roundw
          case rel => exact ⟨k + 1, by omega, by go_num, by rw [unhide LT1], unhide HB⟩
          case measure => simp [intOf]; omega
    · obtain rfl : k = len := by omega
      go_wp2
      go_ret
      exact ⟨rfl, hb⟩
end Go.Proofs.YtmhcbehplhfgfaaGreatDoor

namespace Go.Proofs.YtmhcbehplhfgfaaGreatDoor
open Go.ChangeShapes Go.WideShapes Go.ChangeAt Go.RowKit
set_option linter.unusedVariables false
set_option maxRecDepth 8000
def wordT (x : ByteArray) : Tk := if keptB x = true then ⟨5, 0, x⟩ else ⟨1, 0, x⟩
end Go.Proofs.YtmhcbehplhfgfaaGreatDoor

namespace Go.Proofs.YtmhcbehplhfgfaaGreatDoor
open Go.ChangeShapes Go.WideShapes Go.ChangeAt Go.RowKit
set_option linter.unusedVariables false
set_option maxRecDepth 8000
theorem results_row2 {P : Program} {fn : Func} {p u : Tmp} {ty : TypeId} (h : fn.results = #[.cell p ty, .tmp u]) (tmps : Array Value) (w : World) (g : Nat) (t : TypeId) (cs : Array Value) (fr : Nat × Nat) (d : TypeDesc)
    (hp : tmps.getD p undef = .pointer (some ⟨g, 0, none⟩)) (hg : w.heap[g]? = some (.cells cs t fr))
    (hu : P.underlying ty = some d) (hd : (match d with | .struct _ | .array _ _ => true | _ => false) = true) (hi : (P.info? ty).map (·.size) = some cs.size) :
    (results fn tmps).run P w = .ok (.tuple #[.agg cs, tmps.getD u undef]) w := by
  have hp' : tmps[p]?.getD undef = .pointer (some ⟨g, 0, none⟩) := by simpa using hp
  simp [results, h, hp', asAddr, run_loadVar_row w g t ty cs fr d hg hu hd hi]
theorem szK : (Tryz.prog.info? 59).map (·.size) = some 3 := by kernel_rfl
theorem tk_one (k n : Int) (x : ByteArray) : (#[Value.int .i64 k, .int .i64 n, .string x] : Array Value).all (·.oneCell') = true := by simp [Value.oneCell']
def T0c : Array Value := #[.int .i64 0, .int .i64 0, .string ⟨#[]⟩]
theorem wordT_v (x : ByteArray) : (keptB x = true → wordT x = ⟨5, 0, x⟩) ∧ (keptB x = false → wordT x = ⟨1, 0, x⟩) := by
  unfold wordT
  constructor
  · intro h; rw [h]; rfl
  · intro h; rw [h]; rfl
end Go.Proofs.YtmhcbehplhfgfaaGreatDoor

namespace Go.Proofs.YtmhcbehplhfgfaaGreatDoor
open Go.ChangeShapes Go.WideShapes Go.ChangeAt Go.RowKit
set_option linter.unusedVariables false
set_option maxRecDepth 8000
theorem below_row {w w' : World} {cs : Array Value} (h : Below w.heap.size w w') : Below w.heap.size w (w'.setRow w.heap.size cs) :=
  h.trans ⟨rfl, rfl, rfl, by simp [World.setRow], fun k hk => setRow_other _ _ _ _ (by omega)⟩
end Go.Proofs.YtmhcbehplhfgfaaGreatDoor

namespace Go.Proofs.YtmhcbehplhfgfaaGreatDoor
open Go.ChangeShapes Go.WideShapes Go.ChangeAt Go.RowKit
set_option linter.unusedVariables false
set_option maxRecDepth 8000
/-- A name's form, opened. -/
theorem form_open {l : List UInt8} (h : formB l = true) : ∃ c r, l = c :: r ∧ smB (c.toNat : Int) = true ∧ (∀ x ∈ l, ldB (x.toNat : Int) = true) ∧ l.length ≤ 6 := by
  unfold formB at h
  rw [Bool.and_eq_true, inB_iff, List.all_eq_true] at h
  obtain ⟨h1, h2, h3⟩ := h
  match l, h2 with
  | c :: r, _ =>
    refine ⟨c, r, rfl, ?_, ?_, by omega⟩
    · have := h1 0 (List.mem_range.2 (by simp))
      unfold okAt at this
      rw [show decide (0 < 0) = false from rfl, Bool.false_and, Bool.or_false] at this
      exact this
    · intro x hx
      obtain ⟨i, hi, rfl⟩ := List.getElem_of_mem hx
      have := h1 i (List.mem_range.2 hi)
      unfold okAt bAt at this
      rw [List.getD_eq_getElem?_getD, List.getElem?_eq_getElem hi] at this
      simp only [Option.getD_some] at this
      unfold ldB
      rw [Bool.or_eq_true] at this ⊢
      rcases this with h | h
      · exact .inl h
      · rw [Bool.and_eq_true] at h; exact .inr h.2
end Go.Proofs.YtmhcbehplhfgfaaGreatDoor

namespace Go.Proofs.YtmhcbehplhfgfaaGreatDoor
open Go.ChangeShapes Go.WideShapes Go.ChangeAt Go.RowKit
set_option linter.unusedVariables false
set_option maxRecDepth 8000
def AllOk (ts : List Tk) : Prop := ∀ t ∈ ts, t.ok = true
theorem kept_small : ∀ x ∈ keptL, x.size ≤ 7 := by decide +kernel
theorem ok_size {t : Tk} (h : t.ok = true) : t.s.size ≤ 7 := by
  obtain ⟨tk, tn, tx⟩ := t
  unfold Tk.ok at h
  simp only at h ⊢
  have hl := size_len tx
  split at h
  · rw [Bool.and_eq_true, decide_eq_true_eq] at h; omega
  · split at h
    · cases h
    · split at h
      · unfold nameB at h
        rw [Bool.and_eq_true] at h
        obtain ⟨_, _, _, _, _, h6⟩ := form_open h.1
        omega
      · split at h
        · match hx : tx.data.toList with
          | [] => rw [hx] at h; cases h
          | c0 :: q =>
            rw [hx, dotB_cons, Bool.and_eq_true] at h
            obtain ⟨_, _, _, _, _, h6⟩ := form_open h.2
            rw [hx, List.length_cons] at hl
            omega
        · split at h
          · match hx : tx.data.toList, h with
            | [c], _ => rw [hx] at hl; simp at hl; omega
          · split at h
            · exact kept_small tx (hasS_iff.1 h)
            · cases h
end Go.Proofs.YtmhcbehplhfgfaaGreatDoor

namespace Go.Proofs.YtmhcbehplhfgfaaGreatDoor
open Go.ChangeShapes Go.WideShapes Go.ChangeAt Go.RowKit
set_option linter.unusedVariables false
set_option maxRecDepth 8000
/-- A term. -/
structure Ex where
  k : Int
  n : Int
  s : ByteArray
  l : List Ex
theorem Ex.ind {p : Ex → Prop} (h : ∀ k n s l, (∀ e ∈ l, p e) → p ⟨k, n, s, l⟩) (e : Ex) : p e := by
  obtain ⟨k, n, s, l⟩ := e
  exact h k n s l (fun e he => Ex.ind h e)
/-- How much a term holds. -/
def Ex.sz : Ex → Nat
  | ⟨_, _, s, l⟩ => s.size + l.length + (l.map Ex.sz).sum
theorem Ex.sz_eq (k n : Int) (s : ByteArray) (l : List Ex) : (Ex.mk k n s l).sz = s.size + l.length + (l.map Ex.sz).sum := by rw [Ex.sz]
def X0 : Ex := ⟨0, 0, ⟨#[]⟩, []⟩
def xAt (l : List Ex) (i : Nat) : Ex := l.getD i X0
/-- The parts of a term lie at a: every block of them from B on. -/
def RdX (w : World) (B : Nat) : Ex → Option Addr → Prop
  | ⟨_, _, _, l⟩, a => l = [] ∨ ∃ b off, a = some ⟨b, off, none⟩ ∧ B ≤ b ∧ b < w.heap.size ∧ ∀ x ∈ l, ∀ i, l[i]? = some x → w.cell? ⟨b, off + i * 4, none⟩ = some (.int .i64 x.k) ∧ w.cell? ⟨b, off + i * 4 + 1, none⟩ = some (.int .i64 x.n) ∧ w.cell? ⟨b, off + i * 4 + 2, none⟩ = some (.string x.s) ∧ ∃ c cap, w.cell? ⟨b, off + i * 4 + 3, none⟩ = some (.slice c x.l.length cap) ∧ RdX w B x c
/-- One part, as it lies. -/
def OneX (w : World) (B b at_ : Nat) (x : Ex) : Prop := w.cell? ⟨b, at_, none⟩ = some (.int .i64 x.k) ∧ w.cell? ⟨b, at_ + 1, none⟩ = some (.int .i64 x.n) ∧ w.cell? ⟨b, at_ + 2, none⟩ = some (.string x.s) ∧ ∃ c cap, w.cell? ⟨b, at_ + 3, none⟩ = some (.slice c x.l.length cap) ∧ RdX w B x c
theorem xAt_get {l : List Ex} {i : Nat} (h : i < l.length) : xAt l i = l[i] := by
  unfold xAt
  rw [List.getD_eq_getElem?_getD, List.getElem?_eq_getElem h]
  rfl
theorem xAt_mem {l : List Ex} {i : Nat} (h : i < l.length) : xAt l i ∈ l := by rw [xAt_get h]; exact List.getElem_mem _
theorem RdX_eq (w : World) (B : Nat) (e : Ex) (a : Option Addr) : RdX w B e a ↔ (e.l = [] ∨ ∃ b off, a = some ⟨b, off, none⟩ ∧ B ≤ b ∧ b < w.heap.size ∧ ∀ i, i < e.l.length → OneX w B b (off + i * 4) (xAt e.l i)) := by
  obtain ⟨k, n, s, l⟩ := e
  rw [RdX]
  refine or_congr Iff.rfl (exists_congr fun b => exists_congr fun off => and_congr Iff.rfl (and_congr Iff.rfl (and_congr Iff.rfl ⟨fun h i hi => ?_, fun h x hx i hi => ?_⟩)))
  · exact h _ (xAt_mem hi) i (by rw [xAt_get hi]; exact List.getElem?_eq_getElem hi)
  · obtain ⟨hl, e⟩ := List.getElem?_eq_some_iff.1 hi
    have := h i hl
    rw [xAt_get hl, e] at this
    exact this
/-- What is kept of the blocks from B on keeps what is read there. -/
theorem RdX.keep {w w' : World} {B : Nat} (hs : w.heap.size ≤ w'.heap.size) (hc : ∀ b o v, B ≤ b → b < w.heap.size → w.cell? ⟨b, o, none⟩ = some v → w'.cell? ⟨b, o, none⟩ = some v) (e : Ex) : ∀ a, RdX w B e a → RdX w' B e a := by
  induction e using Ex.ind with
  | h k n s l ih =>
    intro a h
    rw [RdX_eq] at h ⊢
    rcases h with h | ⟨b, off, ha, h1, h2, h3⟩
    · exact .inl h
    · refine .inr ⟨b, off, ha, h1, Nat.lt_of_lt_of_le h2 hs, fun i hi => ?_⟩
      obtain ⟨c1, c2, c3, c, cap, c4, c5⟩ := h3 i hi
      exact ⟨hc _ _ _ h1 h2 c1, hc _ _ _ h1 h2 c2, hc _ _ _ h1 h2 c3, c, cap, hc _ _ _ h1 h2 c4, ih _ (xAt_mem hi) _ c5⟩
theorem RdX.later {w w' : World} {B : Nat} {e : Ex} {a : Option Addr} (h : RdX w B e a) (hb : Below w.heap.size w w') : RdX w' B e a :=
  RdX.keep hb.size (fun b o v _ hlt hc => (hb.cell (p := ⟨b, o, none⟩) hlt).trans hc) e a h
theorem RdX.lower {w : World} {B C : Nat} (hC : C ≤ B) (e : Ex) : ∀ a, RdX w B e a → RdX w C e a := by
  induction e using Ex.ind with
  | h k n s l ih =>
    intro a h
    rw [RdX_eq] at h ⊢
    rcases h with h | ⟨b, off, ha, h1, h2, h3⟩
    · exact .inl h
    · refine .inr ⟨b, off, ha, Nat.le_trans hC h1, h2, fun i hi => ?_⟩
      obtain ⟨c1, c2, c3, c, cap, c4, c5⟩ := h3 i hi
      exact ⟨c1, c2, c3, c, cap, c4, ih _ (xAt_mem hi) _ c5⟩
/-- What all parts hold. -/
def szX (l : List Ex) : Nat := (l.map Ex.sz).sum
theorem szX_take (l : List Ex) (k : Nat) (h : k < l.length) : szX (l.take (k + 1)) = szX (l.take k) + (xAt l k).sz := by
  unfold szX
  rw [List.take_succ_eq_append_getElem h, List.map_append, List.sum_append, xAt_get h]
  simp
theorem szX_le (l : List Ex) (k : Nat) : szX (l.take k) ≤ szX l := by
  induction l generalizing k with
  | nil => simp [szX]
  | cons a r ih =>
    cases k with
    | zero => simp [szX]
    | succ k =>
      have := ih k
      unfold szX at this ⊢
      simp only [List.take_succ_cons, List.map_cons, List.sum_cons]
      omega
theorem sz_is (e : Ex) : e.sz = e.s.size + e.l.length + szX e.l := by obtain ⟨k, n, s, l⟩ := e; exact Ex.sz_eq k n s l
/-- Every text and list within can be counted. -/
def Fit : Ex → Prop
  | ⟨_, _, s, l⟩ => s.size ≤ 9223372036854775807 ∧ l.length ≤ 9223372036854775807 ∧ ∀ x ∈ l, Fit x
theorem Fit_eq (e : Ex) : Fit e ↔ (e.s.size ≤ 9223372036854775807 ∧ e.l.length ≤ 9223372036854775807 ∧ ∀ i, i < e.l.length → Fit (xAt e.l i)) := by
  obtain ⟨k, n, s, l⟩ := e
  rw [Fit]
  refine and_congr Iff.rfl (and_congr Iff.rfl ⟨fun h i hi => h _ (xAt_mem hi), fun h x hx => ?_⟩)
  obtain ⟨i, hi, rfl⟩ := List.getElem_of_mem hx
  have := h i hi
  rw [xAt_get hi] at this
  exact this
end Go.Proofs.YtmhcbehplhfgfaaGreatDoor

namespace Go.Proofs.YtmhcbehplhfgfaaGreatDoor
open Go.ChangeShapes Go.WideShapes Go.ChangeAt Go.RowKit
set_option linter.unusedVariables false
set_option maxRecDepth 8000
/-- Is a term right, but for its parts? -/
def Ex.here (e : Ex) : Bool :=
  if ((e.k != 1 && (e.k != 11 && e.n != 0)) || (e.k != 2 && (e.k != 12 && !eqS e.s E0))) = true then false
  else if e.k = 1 then inB e.n 0 65535 && e.l.length == 0
  else if e.k = 2 ∨ e.k = 12 then nameB e.s && e.l.length == 0
  else if e.k = 3 then e.l.length == 0
  else if e.k = 4 then e.l.length == 1
  else if 5 ≤ e.k ∧ e.k ≤ 10 then e.l.length == 2
  else if e.k = 11 then inB e.n 0 9 && e.l.length == 0
  else false
/-- Is a term right, so deep at most? -/
def okF : Nat → Bool → Ex → Bool
  | 0, _, _ => false
  | d + 1, p, e => e.here && (!(p && (e.k == 11 || e.k == 12)) && e.l.all (okF d p))
def mkS (c : UInt8) : ByteArray := ⟨#[c]⟩
def mkT (c : UInt8) : Tk := ⟨4, 0, mkS c⟩
def sgnC (k : Int) : UInt8 := if k = 5 then 43 else if k = 6 then 45 else if k = 7 then 42 else if k = 8 then 47 else if k = 9 then 38 else 124
/-- The tokens of a plain term. -/
def toksF : Nat → Ex → List Tk
  | 0, _ => []
  | d + 1, e => if e.k = 1 then [⟨2, e.n, E0⟩] else if e.k = 2 then [⟨1, 0, e.s⟩] else if e.k = 3 then [mkT 46]
    else if e.k = 4 then mkT 45 :: toksF d (xAt e.l 0)
    else mkT 60 :: (toksF d (xAt e.l 0) ++ (mkT (sgnC e.k) :: (toksF d (xAt e.l 1) ++ [mkT 62])))
/-- The forms of a plain term. -/
theorem plain_cases {d : Nat} {e : Ex} (h : okF (d + 1) true e = true) : (∃ n : Int, (0 ≤ n ∧ n ≤ 65535) ∧ e = ⟨1, n, E0, []⟩) ∨ (∃ s, nameB s = true ∧ e = ⟨2, 0, s, []⟩) ∨ e = ⟨3, 0, E0, []⟩ ∨ (∃ a, okF d true a = true ∧ e = ⟨4, 0, E0, [a]⟩) ∨ (∃ k a b, (5 ≤ k ∧ k ≤ 10) ∧ okF d true a = true ∧ okF d true b = true ∧ e = ⟨k, 0, E0, [a, b]⟩) := by
  obtain ⟨k, n, s, l⟩ := e
  simp only [okF, Bool.and_eq_true, Bool.true_and, Bool.not_eq_true', Bool.or_eq_false_iff, beq_eq_false_iff_ne] at h
  obtain ⟨h1, ⟨h11, h12⟩, hall⟩ := h
  unfold Ex.here at h1
  simp only at h1
  split at h1
  · cases h1
  · rename_i hg
    have hg : ((k != 1 && (k != 11 && n != 0)) || (k != 2 && (k != 12 && !eqS s E0))) = false := by simpa using hg
    rw [Bool.or_eq_false_iff] at hg
    have hn : k ≠ 1 → n = 0 := fun hk => by have := hg.1; simpa [hk, h11] using this
    have hs : k ≠ 2 → s = E0 := fun hk => by
      have := hg.2
      have h3 : eqS s E0 = true := by simpa [hk, h12] using this
      exact (eqS_iff _ _).1 h3
    split at h1
    · rename_i e; subst e
      rw [Bool.and_eq_true, beq_iff_eq, List.length_eq_zero_iff] at h1
      obtain ⟨hi, rfl⟩ := h1
      exact .inl ⟨n, (inB_iff _ _ _).1 hi, by rw [hs (by decide)]⟩
    · rename_i k1
      split at h1
      · rename_i e
        obtain rfl : k = 2 := by rcases e with e | e; exact e; exact absurd e h12
        rw [Bool.and_eq_true, beq_iff_eq, List.length_eq_zero_iff] at h1
        obtain ⟨hi, rfl⟩ := h1
        exact .inr (.inl ⟨s, hi, by rw [hn (by decide)]⟩)
      · rename_i k2
        have k2 : k ≠ 2 := fun e => k2 (.inl e)
        obtain rfl := hn k1
        obtain rfl := hs k2
        split at h1
        · rename_i e; subst e
          rw [beq_iff_eq, List.length_eq_zero_iff] at h1
          subst h1
          exact .inr (.inr (.inl rfl))
        · split at h1
          · rename_i e; subst e
            rw [beq_iff_eq] at h1
            match l, h1 with
            | [a], _ => exact .inr (.inr (.inr (.inl ⟨a, by simpa using hall, rfl⟩)))
          · split at h1
            · rename_i e
              rw [beq_iff_eq] at h1
              match l, h1 with
              | [a, b], _ =>
                have : okF d true a = true ∧ okF d true b = true := by simpa using hall
                exact .inr (.inr (.inr (.inr ⟨k, a, b, e, this.1, this.2, rfl⟩)))
            · cases h1
theorem plain_num {d : Nat} {n : Int} (h : 0 ≤ n ∧ n ≤ 65535) : okF (d + 1) true ⟨1, n, E0, []⟩ = true := by
  have : inB n 0 65535 = true := (inB_iff _ _ _).2 h
  simp [okF, Ex.here, this, show eqS E0 E0 = true from (eqS_iff _ _).2 rfl]
theorem plain_sym {d : Nat} {s : ByteArray} (h : nameB s = true) : okF (d + 1) true ⟨2, 0, s, []⟩ = true := by
  simp [okF, Ex.here, h]
theorem plain_here (d : Nat) : okF (d + 1) true ⟨3, 0, E0, []⟩ = true := by
  simp [okF, Ex.here, show eqS E0 E0 = true from (eqS_iff _ _).2 rfl]
theorem toks_num (d : Nat) (n : Int) : toksF (d + 1) ⟨1, n, E0, []⟩ = [⟨2, n, E0⟩] := rfl
theorem toks_sym (d : Nat) (s : ByteArray) : toksF (d + 1) ⟨2, 0, s, []⟩ = [⟨1, 0, s⟩] := rfl
theorem toks_here (d : Nat) : toksF (d + 1) ⟨3, 0, E0, []⟩ = [mkT 46] := rfl
theorem toks_neg (d : Nat) (a : Ex) : toksF (d + 1) ⟨4, 0, E0, [a]⟩ = mkT 45 :: toksF d a := rfl
theorem toks_two (d : Nat) {k : Int} (hk : 5 ≤ k ∧ k ≤ 10) (a b : Ex) : toksF (d + 1) ⟨k, 0, E0, [a, b]⟩ = mkT 60 :: (toksF d a ++ (mkT (sgnC k) :: (toksF d b ++ [mkT 62]))) := by
  have : k = 5 ∨ k = 6 ∨ k = 7 ∨ k = 8 ∨ k = 9 ∨ k = 10 := by omega
  rcases this with rfl | rfl | rfl | rfl | rfl | rfl <;> rfl
end Go.Proofs.YtmhcbehplhfgfaaGreatDoor

namespace Go.Proofs.YtmhcbehplhfgfaaGreatDoor
open Go.ChangeShapes Go.WideShapes Go.ChangeAt Go.RowKit
set_option linter.unusedVariables false
set_option maxRecDepth 8000
/-- A term's value, its parts lying at b. -/
def Ex.cs (e : Ex) (b : Option Addr) (cap : Nat) : Array Value := #[.int .i64 e.k, .int .i64 e.n, .string e.s, .slice b e.l.length cap]
section
variable {H : Type} {enc : TypeId × Value → H} {W : World} {b0 base : Nat} {spare : TypeId → Bool} {held : Bool}
theorem trod_four {P : Program} {t : TypeId} {f0 f1 f2 f3 : Field} {fuel : Nat} {cs : List Value} {x : DataW H × List MemPlace} (ht : P.underlying t = some (.struct #[f0, f1, f2, f3])) (h : DataW.trod enc P W base spare held fuel t cs = some x) :
    ∃ y0 y1 y2 y3 n, fuel = n + 1 ∧ cs.length = P.cellsOf t ∧ DataW.trod enc P W base spare held n f0.type ((cs.drop f0.offset).take (P.cellsOf f0.type)) = some y0 ∧ DataW.trod enc P W base spare held n f1.type ((cs.drop f1.offset).take (P.cellsOf f1.type)) = some y1 ∧ DataW.trod enc P W base spare held n f2.type ((cs.drop f2.offset).take (P.cellsOf f2.type)) = some y2 ∧ DataW.trod enc P W base spare held n f3.type ((cs.drop f3.offset).take (P.cellsOf f3.type)) = some y3 := by
  obtain ⟨xs, n, hf, rfl, hl, hlen, hfs⟩ := DataW.trod_struct ht h
  match xs, hlen with
  | [y0, y1, y2, y3], _ => exact ⟨y0, y1, y2, y3, n, hf, hl, by simpa using hfs 0 f0 rfl, by simpa using hfs 1 f1 rfl, by simpa using hfs 2 f2 rfl, by simpa using hfs 3 f3 rfl⟩
theorem trod_ex : ∀ (fuel : Nat) (cs : List Value) (x : DataW H × List MemPlace), DataW.trod enc Tryz.prog W base spare held fuel 24 cs = some x → ∃ (e : Ex) (b : Option Addr) (cap : Nat), cs = [.int .i64 e.k, .int .i64 e.n, .string e.s, .slice b e.l.length cap] ∧ RdX W 0 e b ∧ Fit e := by
  intro fuel
  induction fuel using Nat.strongRecOn with
  | ind fuel ih =>
    intro cs x h
    obtain ⟨y0, y1, y2, y3, n, hf, hl, h0, h1, h2, h3⟩ := trod_four Tryz.underlying24 h
    have hc : Tryz.prog.cellsOf 24 = 4 := by kernel_rfl
    have hc3 : Tryz.prog.cellsOf 3 = 1 := by kernel_rfl
    have hc9 : Tryz.prog.cellsOf 9 = 1 := by kernel_rfl
    have hcl : Tryz.prog.cellsOf 22 = 1 := by kernel_rfl
    rw [hc] at hl
    match cs, hl with
    | [c0, c1, c2, c3], _ =>
      obtain ⟨m, e0, _, w0⟩ := DataW.trod_int Tryz.underlying3 h0
      obtain ⟨r, e1, _, w1⟩ := DataW.trod_int Tryz.underlying3 h1
      obtain ⟨s, e2, _, w2⟩ := DataW.trod_string Tryz.underlying9 h2
      simp only [hc3, hc9] at e0 e1 e2
      simp at e0 e1 e2
      subst e0 e1 e2
      have hs9 : s.size ≤ 9223372036854775807 := by have := w2; unfold maxLen at this; omega
      rcases DataW.trod_slice Tryz.underlying22 h3 with ⟨hcs, _⟩ | ⟨a, len, cap, elems, rest, q, hq, hcs, _, hb, hl, hm, hel, hx, _, _⟩
      · simp only [hcl] at hcs
        simp at hcs
        subst hcs
        exact ⟨⟨m, r, s, []⟩, none, 0, rfl, (RdX_eq _ _ _ _).2 (.inl rfl), (Fit_eq _).2 ⟨hs9, by simp, fun i hi => by simp at hi⟩⟩
      · simp only [hcl] at hcs
        simp at hcs
        subst hcs
        have each : ∀ i, i < len → ∃ t : Ex, (W.cell? (a.add (i * 4)) = some (.int .i64 t.k) ∧ W.cell? (a.add (i * 4 + 1)) = some (.int .i64 t.n) ∧ W.cell? (a.add (i * 4 + 2)) = some (.string t.s) ∧ ∃ c cap, W.cell? (a.add (i * 4 + 3)) = some (.slice c t.l.length cap) ∧ RdX W 0 t c) ∧ Fit t := fun i hi => by
          have h4 := hx i hi
          rw [List.getElem?_eq_getElem (by omega), Option.bind_eq_some_iff] at h4
          obtain ⟨cs', p1, p2⟩ := h4
          rw [hc] at p1
          obtain ⟨_, hlen', hcell⟩ := World.cells?_some p1
          obtain ⟨t, c, cap', hcs', hrd, hft⟩ := ih q (by omega) cs' _ p2
          refine ⟨t, ⟨?_, ?_, ?_, c, cap', ?_, hrd⟩, hft⟩
          · have e := hcell 0 (by omega); rw [_root_.Go.Deep.add_add, hcs'] at e; simpa using e
          · have e := hcell 1 (by omega); rw [_root_.Go.Deep.add_add, hcs'] at e; simpa using e
          · have e := hcell 2 (by omega); rw [_root_.Go.Deep.add_add, hcs'] at e; simpa using e
          · have e := hcell 3 (by omega); rw [_root_.Go.Deep.add_add, hcs'] at e; simpa using e
        obtain ⟨T, hT⟩ := @_root_.Go.Deep.choose_lt Ex ⟨X0⟩ _ _ each
        have hL : ((List.range len).map T).length = len := by simp
        have hat : ∀ i, i < len → xAt ((List.range len).map T) i = T i := fun i hi => by
          unfold xAt
          rw [List.getD_eq_getElem?_getD, List.getElem?_map, List.getElem?_range hi]
          rfl
        refine ⟨⟨m, r, s, (List.range len).map T⟩, some a, cap, by simp [hL], (RdX_eq _ _ _ _).2 ?_, (Fit_eq _).2 ⟨hs9, ?_, fun i hi => ?_⟩⟩
        · by_cases h0 : len = 0
          · subst h0; exact .inl rfl
          · right
            obtain ⟨b, off, spot⟩ := a
            have h00 := (hT 0 (by omega)).1.1
            have hspot : spot = none := by simpa [Addr.add] using World.cell?_spot h00
            subst hspot
            have hadd : ∀ j, (⟨b, off, none⟩ : Addr).add j = ⟨b, off + j, none⟩ := fun j => by
              unfold Addr.add
              by_cases hj : j = 0
              · subst hj; simp
              · simp [hj]
            refine ⟨b, off, rfl, Nat.zero_le _, World.block_lt_of_cell? W _ h00, fun i hi => ?_⟩
            have hi : i < len := by simpa using hi
            show OneX W 0 b (off + i * 4) (xAt ((List.range len).map T) i)
            rw [hat i hi]
            have h3 := (hT i hi).1
            rw [hadd, hadd, hadd, hadd] at h3
            exact h3
        · show ((List.range len).map T).length ≤ _
          rw [hL]; unfold maxLen at hm; omega
        · have hi : i < len := by simpa using hi
          show Fit (xAt ((List.range len).map T) i)
          rw [hat i hi]
          exact (hT i hi).2
end
end Go.Proofs.YtmhcbehplhfgfaaGreatDoor
