/- Contracts of Oct, the program's and the model's, over this seat's translation; conditions stand as hypotheses of each. -/
import Derived.Test.YthgbpofcfmnpdaaDoorTkA
import Derived.Deep.OwnRows
import Derived.WalkSpells
import Derived.Laws.BitsLemmas
import Derived.Laws.IdiomStrings
import Derived.WalkLawsBesides
import Derived.ShutString
namespace Go.Proofs.YthgbpofcfmnpdaaDoor
open Go.ChangeShapes Go.WideShapes Go.ChangeAt Go.RowKit
set_option linter.unusedVariables false
set_option maxRecDepth 8000


theorem i64_and7 (n : Int) : bits .and .i64 n 7 = n % 8 := by
  have h127 : (BitVec.ofInt 64 7).toNat = 2 ^ 3 - 1 := by decide
  have key : (BitVec.ofInt 64 n &&& BitVec.ofInt 64 7).toNat = (n % ((2 ^ 64 : Nat) : Int)).toNat % 2 ^ 3 := by
    rw [BitVec.toNat_and, BitVec.toNat_ofInt, h127, Nat.and_two_pow_sub_one_eq_mod]
  show IntKind.i64.wrap ((BitVec.ofInt 64 n &&& BitVec.ofInt 64 7).toNat : Nat) = n % 8
  rw [key, IntKind.wrap_i64]
  omega

theorem ret_str {a b : ByteArray} (h : a = b) : Ending.returned (.string a) = .returned (.string b) := by rw [h]

def dg (x : Nat) : UInt8 := UInt8.ofNat (48 + x)
/-- The digits to the base 8, in at most so many steps. -/
def octF : Nat → Nat → List UInt8
  | 0, n => [dg n]
  | k + 1, n => if n < 8 then [dg n] else octF k (n / 8) ++ [dg (n % 8)]
theorem octF_same (k : Nat) : ∀ j n, n ≤ k → n ≤ j → octF k n = octF j n := by
  induction k with
  | zero =>
    intro j n h1 h2
    obtain rfl : n = 0 := by omega
    cases j with
    | zero => rfl
    | succ j => rfl
  | succ k ih =>
    intro j n h1 h2
    cases j with
    | zero =>
      obtain rfl : n = 0 := by omega
      rfl
    | succ j =>
      show (if n < 8 then [dg n] else octF k (n / 8) ++ [dg (n % 8)]) = (if n < 8 then [dg n] else octF j (n / 8) ++ [dg (n % 8)])
      by_cases h : n < 8
      · rw [if_pos h, if_pos h]
      · rw [if_neg h, if_neg h, ih j (n / 8) (by omega) (by omega)]
/-- The digits to the base 8. -/
def octD (n : Nat) : List UInt8 := octF n n
theorem octD_step (n : Nat) : octD n = if n < 8 then [dg n] else octD (n / 8) ++ [dg (n % 8)] := by
  unfold octD
  rw [octF_same n (n + 1) n (Nat.le_refl _) (by omega)]
  show (if n < 8 then [dg n] else octF n (n / 8) ++ [dg (n % 8)]) = _
  rw [octF_same n (n / 8) (n / 8) (by omega) (Nat.le_refl _)]
theorem octD_small (n : Nat) (h : n < 8) : octD n = [dg n] := by rw [octD_step, if_pos h]
theorem octD_big (n : Nat) (h : ¬ n < 8) : octD n = octD (n / 8) ++ [dg (n % 8)] := by rw [octD_step, if_neg h]
def octP (n : Nat) : List UInt8 := if n < 8 then [] else octD (n / 8)
theorem octD_split (n : Nat) : octD n = octP n ++ [dg (n % 8)] := by
  unfold octP
  by_cases h : n < 8
  · rw [if_pos h, octD_small n h, Nat.mod_eq_of_lt h]; rfl
  · rw [if_neg h, octD_big n h]
theorem octD_len (n : Nat) : ∀ k, n < 8 ^ (k + 1) → (octD n).length ≤ k + 1 := by
  intro k
  induction k generalizing n with
  | zero => intro h; rw [octD_small n (by omega)]; simp
  | succ k ih =>
    intro h
    by_cases h8 : n < 8
    · rw [octD_small n h8]; simp
    · rw [octD_big n h8, List.length_append]
      have := ih (n / 8) (by rw [Nat.pow_succ] at h; omega)
      simp; omega

def strOf (l : List UInt8) : ByteArray := ⟨l.toArray⟩

theorem strOf_size (l : List UInt8) : (strOf l).size = l.length := by show l.toArray.size = _; simp
theorem strOf_list (l : List UInt8) : (strOf l).data.toList = l := by simp [strOf]
theorem strOf_of (s : ByteArray) : strOf s.data.toList = s := by apply ByteArray.ext; simp [strOf]
theorem strOf_append (a b : List UInt8) : strOf a ++ strOf b = strOf (a ++ b) := by apply ByteArray.ext; show (strOf a ++ strOf b).data = _; rw [ByteArray.data_append]; simp [strOf]

theorem one_conv (W : World) (d : Nat) (hd : d < 8) (x : Int) (hx : x = 48 + (d : Int)) (b : Nat) (hb : b = W.heap.size) : (convert 22 9 (.slice (some ⟨b, 0, none⟩) 1 1)).run Tryd.prog (W.alloc (.cells #[.int .u8 x] 5)) = .ok (.string (strOf [dg d])) (W.alloc (.cells #[.int .u8 x] 5)) := by
  subst hb
  exact run_convert_bytes_back (P := Tryd.prog) (W.alloc (.cells #[.int .u8 x] 5)) 22 9 5 ⟨W.heap.size, 0, none⟩ 1 [dg d] Tryd.underlying22 Tryd.underlying5 Tryd.underlying9 (fun j hj => by
    obtain rfl : j = 0 := by simp at hj; omega
    have e : ((dg d).toNat : Int) = x := by unfold dg; simp; omega
    simp only [List.getElem_cons_zero, e]
    simp [Addr.add])

set_option maxHeartbeats 400000 in
theorem octS_any (n : Int) (w : World) : Calls Tryd.prog 84 #[.int .i64 n] w fun e w' => e = .returned (.string (strOf (octD (n % 65536).toNat))) ∧ Below w.heap.size w w' := by
  obtain ⟨N, hN⟩ := Int.eq_ofNat_of_zero_le (Int.emod_nonneg n (show (65536 : Int) ≠ 0 by omega))
  have hlt : N < 65536 := by have := Int.emod_lt_of_pos n (show (0 : Int) < 65536 by omega); omega
  rw [hN, Int.toNat_natCast]
  have h7 := i64_and7 N
  have hc := one_conv w (N % 8) (by omega) (48 + (N : Int) % 8) (by omega)
  have HN := hide hN
  clear hN
  go_enter Tryd.func84, Tryd.ntmps84
  go_wp2_with fail
  refine (wrapS_any n w).mono ?_
  rintro e w' ⟨he, hw'⟩
  rw [unhide HN] at he
  rw [hw', he]
  clear hw' he w'
  go_wp2
  clear h7 hc
  go_loopw [0, 3] (fun i s wr => ∃ (m : Nat) (t : List UInt8), m < 65536 ∧ t.length ≤ 6 ∧ i = .int .i64 m ∧ s = .string (strOf t) ∧ Hid (octD N = octP m ++ t) ∧ Below w.heap.size w wr) (fun i _ _ => (intOf i).toNat)
  case atStart => exact ⟨N, [dg (N % 8)], hlt, by simp, rfl, rfl, octD_split N, (Below.refl _ _).alloc (Nat.le_refl _) _⟩
  case round =>
    obtain ⟨m, t, hm, ht, rfl, rfl, hsp, hbel⟩ := hrel
    by_cases h8 : m < 8
    · go_wp2
      go_ret
      refine ⟨ret_str ?_, hbel⟩
      rw [hsp.out, octP, if_pos h8, List.nil_append]
    · have h7 := i64_and7 ((m : Int) / 8)
      have hc := one_conv wr (m / 8 % 8) (by omega) (48 + (m : Int) / 8 % 8) (by omega)
      have hsz : (strOf t).size ≤ 6 := by rw [strOf_size]; exact ht
      have hsz1 := strOf_size [dg (m / 8 % 8)]
      go_wp2
      have hsp' : octD N = octP (m / 8) ++ (dg (m / 8 % 8) :: t) := by
        have h1 := hsp.out
        rw [octP, if_neg h8, octD_split (m / 8)] at h1
        rw [h1]; simp
      have hlen : (dg (m / 8 % 8) :: t).length ≤ 6 := by
        have h2 := octD_len N 5 (by omega)
        rw [hsp', List.length_append] at h2
        omega
      go_roundw
      case rel => exact ⟨m / 8, dg (m / 8 % 8) :: t, by omega, hlen, by go_num, by rw [strOf_append]; rfl, hsp', hbel.alloc hbel.size _⟩
      case measure => simp [intOf]; omega

theorem pow2_any (w : World) : Calls Tryd.prog 125 #[.int .i64 8] w fun e w' => e = .returned (.bool true) ∧ w' = w := by
  have h : bits BinOp.and IntKind.i64 8 7 = 0 := by decide +kernel
  go_enter Tryd.func125, Tryd.ntmps125
  go_wp2
  go_ret
  exact ⟨rfl, rfl⟩

theorem tz_num : IntKind.u64.wrap (bits BinOp.and IntKind.u64 8 (IntKind.u64.wrap (-8)) * 285870213051353865) / 288230376151711744 = 7 := by decide +kernel

set_option maxHeartbeats 400000 in
theorem tz_any (w : World) (hg : w.cell? ⟨8, 7, none⟩ = some (.int .u8 3)) : Calls Tryd.prog 126 #[.int .u64 8] w fun e w' => e = .returned (.int .i64 3) ∧ w' = w := by
  have hm := tz_num
  go_enter Tryd.func126, Tryd.ntmps126
  go_wp2
  go_ret
  exact ⟨rfl, rfl⟩



def bOf (xs : List UInt8) (i : Nat) : Int := ((xs.getD i 0).toNat : Int)
/-- The last bytes of the row: noughts, then t. -/
def tail65 (t : List UInt8) (p j : Nat) : Value := if j < p then .int .u8 0 else .int .u8 (bOf t (j - p))
theorem u64_and7 (m : Nat) (hm : m < 65536) : bits .and .u64 (m : Int) 7 = ((m % 8 : Nat) : Int) := by
  have := bits_mask .u64 63 (by decide) (fun n a b => by rw [IntKind.wrap_u64]; omega) 3 (by decide) (m : Int) (by omega) (by omega)
  have e : (2 : Int) ^ 3 - 1 = 7 := by decide
  rw [e] at this
  rw [this]
  omega

def z65 : Array Value := (List.replicate 65 (Value.int .u8 0)).toArray
theorem z65_size : z65.size = 65 := by unfold z65; rw [List.size_toArray, List.length_replicate]
theorem z65_get (i : Nat) (h : i < 65) : z65[i]? = some (Value.int .u8 0) := by unfold z65; rw [List.getElem?_toArray, List.getElem?_replicate, if_pos h]
theorem row65 (w : World) : (w.alloc (Obj.cells z65 166)).rowIs w.heap.size 166 65 (tail65 [] 65) := by
  have h := World.rowIs_alloc w z65 166 (fun _ => .int .u8 0) (fun i hi => z65_get i (by rw [z65_size] at hi; exact hi))
  rw [z65_size] at h
  exact h.congr (fun j hj => by simp [tail65, hj])
theorem zero65 (w : World) : (zeroValue 166).run Tryd.prog w = .ok (.agg z65) w := by kernel_rfl

theorem digit_at (d : Nat) (h8 : d < 8) : ∀ h, (({ data := #[48, 49, 50, 51, 52, 53, 54, 55, 56, 57, 97, 98, 99, 100, 101, 102, 103, 104, 105, 106, 107, 108, 109, 110, 111, 112, 113, 114, 115, 116, 117, 118, 119, 120, 121, 122] } : ByteArray)[d]'h).toNat = 48 + d := by
  match d, h8 with
  | 0, _ => intro h; rfl
  | 1, _ => intro h; rfl
  | 2, _ => intro h; rfl
  | 3, _ => intro h; rfl
  | 4, _ => intro h; rfl
  | 5, _ => intro h; rfl
  | 6, _ => intro h; rfl
  | 7, _ => intro h; rfl
theorem dg_val (d : Nat) (h : d < 8) : ((dg d).toNat : Int) = 48 + d := by unfold dg; simp; omega

theorem tail_step {W : World} {b p : Nat} {t : List UInt8} (h : W.rowIs b 166 65 (tail65 t p)) (hp1 : 1 ≤ p) (d : Nat) (hd : d < 8) (x : Int) (hx : x = 48 + (d : Int)) : (W.setCell ⟨b, p - 1, none⟩ (.int .u8 x)).rowIs b 166 65 (tail65 (dg d :: t) (p - 1)) := by
  refine (h.set (p - 1) (.int .u8 x)).congr (fun j hj => ?_)
  by_cases e : j = p - 1
  · subst e
    rw [if_pos rfl]
    unfold tail65
    rw [if_neg (by omega), Nat.sub_self]
    have : bOf (dg d :: t) 0 = x := by rw [hx, ← dg_val d hd]; rfl
    rw [this]
  · rw [if_neg e]
    unfold tail65
    by_cases e2 : j < p - 1
    · rw [if_pos (by omega), if_pos e2]
    · rw [if_neg (by omega), if_neg e2]
      have : j - (p - 1) = (j - p) + 1 := by omega
      rw [this]
      rfl

theorem tail_conv {W : World} {b p : Nat} {t : List UInt8} (h : W.rowIs b 166 65 (tail65 t p)) (hp : p + t.length = 65) (n c : Nat) (hn : n = t.length) : (convert 22 9 (.slice (some ⟨b, p, none⟩) n c)).run Tryd.prog W = .ok (.string (strOf t)) W := by
  subst hn
  exact run_convert_bytes_back (P := Tryd.prog) W 22 9 5 ⟨b, p, none⟩ c t Tryd.underlying22 Tryd.underlying5 Tryd.underlying9 (fun j hj => by
    have h2 := h.cell (i := p + j) (by omega)
    unfold tail65 at h2
    rw [if_neg (by omega), Nat.add_sub_cancel_left] at h2
    have e : bOf t j = (t[j].toNat : Int) := by unfold bOf; rw [List.getD_eq_getElem?_getD, List.getElem?_eq_getElem hj]; rfl
    rw [e] at h2
    unfold Addr.add
    by_cases h0 : j = 0
    · subst h0; simpa using h2
    · simpa [h0] using h2)

theorem slice65 (b p : Nat) (h1 : 1 ≤ p) (h2 : p ≤ 65) (W : World) : (Instr.sliceAt 166 (.pointer (some ⟨b, 0, none⟩)) (some (.int .i64 ((p : Int) - 1))) none none).run Tryd.prog W = .ok (.slice (some ⟨b, p - 1, none⟩) (65 - (p - 1)) (65 - (p - 1))) W := by
  have hal : Tryd.prog.arrayLen 166 = 65 := by simp [Program.arrayLen, Tryd.underlying166]
  rw [run_sliceAt_array_l W 166 ⟨b, 0, none⟩ (by simp [Program.arrayLen, Program.elem, Tryd.underlying166]) .i64 ((p : Int) - 1) (by omega) (by rw [hal]; omega)]
  have e : ((p : Int) - 1).toNat = p - 1 := by omega
  have hne : ¬ 65 = p - 1 := by omega
  rw [hal, e]
  go_simp

set_option maxHeartbeats 1000000 in
theorem fmtBits_any (N : Nat) (hN : N < 65536) (w : World) (hg : w.cell? ⟨8, 7, none⟩ = some (.int .u8 3)) :
    Calls Tryd.prog 113 #[.slice none 0 0, .int .u64 N, .int .i64 8, .bool false, .bool false] w fun e w' => e = .returned (.tuple #[.slice none 0 0, .string (strOf (octD N))]) ∧ Below w.heap.size w w' := by
  have hlt := World.block_lt_of_cell? w _ hg
  have hlt4 : 8 < w.heap.size := hlt
  have HG : ∀ o, (w.alloc o).cell? ⟨8, 7, none⟩ = some (.int .u8 3) := fun o => by rw [World.cell?_alloc_past _ _ _ hlt4]; exact hg
  have HG' := hide HG
  clear HG hg hlt
  have hz := zero65
  go_enter Tryd.func113, Tryd.ntmps113
  go_wp2_with (first | (go_at_call 125; refine (pow2_any _).mono ?_; rintro e w' ⟨rfl, hw'⟩; rw [hw']; clear hw' w') | (go_at_call 126; refine (tz_any _ (by exact unhide HG' _)).mono ?_; rintro e w' ⟨rfl, hw'⟩; rw [hw']; clear hw' w'))
  have R0' := hide (row65 w)
  clear hz
  go_loopw [1, 13] (fun u i wr => ∃ (m : Nat) (t : List UInt8) (p : Nat), m < 65536 ∧ p + t.length = 65 ∧ t.length ≤ 6 ∧ u = .int .u64 m ∧ i = .int .i64 p ∧ Hid (octD N = octD m ++ t) ∧ wr.rowIs w.heap.size 166 65 (tail65 t p) ∧ Below w.heap.size w wr) (fun u _ _ => (intOf u).toNat)
  case atStart => exact ⟨N, [], 65, hN, rfl, by simp, rfl, rfl, by show octD N = _; simp, unhide R0', (Below.refl _ _).alloc (Nat.le_refl _) _⟩
  case round =>
    obtain ⟨m, t, p, hm, hp, ht, rfl, rfl, hsp, hrow, hbel⟩ := hrel
    clear R0'
    have hp1 : 59 ≤ p := by omega
    by_cases h8 : m < 8
    · have hdig := digit_at m h8
      have hfz := hrow.frozen (p - 1)
      have hco := hrow.cell (i := p - 1) (by omega)
      have R1 := tail_step hrow (by omega) m h8 (48 + (m : Int)) rfl
      have hcv := tail_conv R1 (by rw [List.length_cons]; omega) (65 - (p - 1)) (65 - (p - 1)) (by rw [List.length_cons]; omega)
      have hsl := slice65 w.heap.size p (by omega) (by omega)
      have R1' := hide R1
      clear R1 hrow
      go_wp2
      go_ret2
      refine ⟨?_, hbel.setCell (p := ⟨w.heap.size, p - 1, none⟩) (Nat.le_refl _) _⟩
      rw [hsp.out, octD_small m h8]
      rfl
    · have h7 := u64_and7 m hm
      have hdig := digit_at (m % 8) (by omega)
      have hfz := hrow.frozen (p - 1)
      have hco := hrow.cell (i := p - 1) (by omega)
      have R1 := hide (tail_step hrow (by omega) (m % 8) (by omega) (48 + (m : Int) % 8) (by omega))
      have hsp' : octD N = octD (m / 8) ++ (dg (m % 8) :: t) := by
        have h1 := hsp.out
        rw [octD_big m h8] at h1
        rw [h1]; simp
      have hlen : (dg (m % 8) :: t).length ≤ 6 := by
        have h2 := octD_len N 5 (by omega)
        rw [hsp', List.length_append] at h2
        omega
      have HS := hide hsp'
      have HL := hide hlen
      clear hrow hsp' hlen
      go_wp2
      go_roundw
      case rel => exact ⟨m / 8, dg (m % 8) :: t, p - 1, by omega, by rw [List.length_cons]; omega, unhide HL, by go_num, by go_num, unhide HS, unhide R1, hbel.setCell (p := ⟨w.heap.size, p - 1, none⟩) (Nat.le_refl _) _⟩
      case measure => simp [intOf]; omega



set_option maxHeartbeats 400000 in
theorem fmtInt_any (N : Nat) (hN : N < 65536) (w : World) (hg : w.cell? ⟨8, 7, none⟩ = some (.int .u8 3)) :
    Calls Tryd.prog 103 #[.int .i64 N, .int .i64 8] w fun e w' => e = .returned (.string (strOf (octD N))) ∧ Below w.heap.size w w' := by
  have H := hide (fmtBits_any N hN w hg)
  clear hg
  go_enter Tryd.func103, Tryd.ntmps103
  go_wp2_with fail
  refine (unhide H).mono ?_
  rintro e w1 ⟨rfl, hb⟩
  go_wp2
  go_ret
  exact ⟨rfl, hb⟩

set_option maxHeartbeats 400000 in
theorem octI_any (n : Int) (w : World) (hg : w.cell? ⟨8, 7, none⟩ = some (.int .u8 3)) :
    Calls Tryd.prog 47 #[.int .i64 n] w fun e w' => e = .returned (.string (strOf (octD (n % 65536).toNat))) ∧ Below w.heap.size w w' := by
  obtain ⟨N, hN⟩ := Int.eq_ofNat_of_zero_le (Int.emod_nonneg n (show (65536 : Int) ≠ 0 by omega))
  have hlt : N < 65536 := by have := Int.emod_lt_of_pos n (show (0 : Int) < 65536 by omega); omega
  rw [hN, Int.toNat_natCast]
  have HN := hide hN
  have H := hide (fmtInt_any N hlt w hg)
  clear hN hg
  go_enter Tryd.func47, Tryd.ntmps47
  go_wp2_with fail
  refine (wrapI_any n w).mono ?_
  rintro e w' ⟨he, hw'⟩
  rw [unhide HN] at he
  rw [hw', he]
  clear hw' he w'
  go_wp2_with (first | (go_at_call 103; refine (unhide H).mono ?_; rintro e w1 ⟨rfl, hb⟩) | go_in)
  go_ret
  exact ⟨rfl, hb⟩

end Go.Proofs.YthgbpofcfmnpdaaDoor
