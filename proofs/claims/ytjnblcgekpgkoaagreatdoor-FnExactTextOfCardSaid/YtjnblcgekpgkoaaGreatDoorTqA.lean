/- Contracts over this seat's translation, laid together; conditions stand as hypotheses of each. -/
import Derived.Deep.RegionWith
import Derived.Laws.Strings3
import Derived.BigGuard
import Derived.Lib.BufferWrite
import Derived.Lib.UnsafeStr
import Derived.Lib.IfaceEq
import Derived.Lib.AtoiErrMem
import Derived.Lib.Walk
import Derived.Laws.MakeOwn
import Derived.Laws.Closers25b
import Derived.OwnWalk
import Derived.Lib.Builder
import Derived.Lib.AppendStr
import Derived.Lib.FrozenHead
import Derived.Lib.OthersKept
import Derived.Deep.RegionHeld
import Derived.Laws.Rows
import Derived.Laws.OwnMore
import Derived.Test.YtjnblcgekpgkoaaGreatDoorProg
import Derived.Deep.Slices
import Derived.Lib.SmallJoins
import Derived.Laws.Tables
import Derived.Laws.ResultCell
import Derived.Laws.CopyOwn
import Derived.Deep.DeepMust
import Derived.WalkKit
import Derived.ProofKit
import Derived.OpenShut
import Derived.ShutString
import Derived.ChangeOld
import Derived.Below
import Derived.Deep.OwnRows
import Derived.WalkSpells
import Derived.Laws.AppendOwnNone
import Derived.BigQuiet
import Derived.Laws.BitsLemmas
import Derived.WalkLawsBesides
import Derived.WalkMore
import Derived.LaidLaws
import Derived.Lib.LaidTab
import Derived.Lib.Bytealg
import Derived.Laws.IdiomStrings
import GoSem.Claim
import Derived.JoinedTies
import Derived.KernelRfl
namespace Go.Proofs.YtjnblcgekpgkoaaGreatDoor
open Go.ChangeShapes Go.WideShapes Go.ChangeAt Go.RowKit
set_option maxHeartbeats 16000000
section
variable {P : Program} {ops : Array Oper} {Q : Exit → Act → World → Prop} {md : Region.Mode} {S : World → Prop} {oi : Oper} {fuel : Nat} {listed : Array Bool} {a : Act} {w : World}
theorem tkA (i : Nat) (v : Value) (hi : ops[i]? = some oi) (hy : YieldsIf P ops S oi v a) (hS : S w) (h : wpAnyH P md ops Q S fuel (listed.setIfInBounds i true) (a.put oi.dst v) w) (hs : Region.noSelect ops = true := by kernel_rfl) (hf : Region.free md ops listed i = true := by kernel_rfl) (hr : (Region.ready md ops listed).contains i = true := by kernel_rfl) (hQ : ∀ c a w, Q (.panic c) (a.put oi.dst v) w → Q (.panic c) a w := by exact fun _ _ _ h => h) : wpAnyH P md ops Q S (fuel + 1) listed a w := wpAnyH_take hi hs hf hr hQ hy hS h
theorem tkB (i : Nat) (v : Value) (hi : ops[i]? = some oi) (hS : S w) (h : wpAnyH P md ops Q S fuel (listed.setIfInBounds i true) (a.put oi.dst v) w) (hs : Region.noSelect ops = true := by kernel_rfl) (hf : Region.free md ops listed i = true := by kernel_rfl) (hr : (Region.ready md ops listed).contains i = true := by kernel_rfl) (hQ : ∀ c a w, Q (.panic c) (a.put oi.dst v) w → Q (.panic c) a w := by exact fun _ _ _ h => h) (hy : YieldsIf P ops S oi v a := by exact .inl ⟨by rfl, fun w hc => by clear hc; go_simp⟩) : wpAnyH P md ops Q S (fuel + 1) listed a w := wpAnyH_take hi hs hf hr hQ hy hS h
end
set_option linter.unusedVariables false
set_option maxRecDepth 8000
theorem hide {p : Prop} (h : p) : Hid p := h
theorem uh {p : Prop} (h : Hid p) : p := h
def inB (x a b : Int) : Bool := decide (a ≤ x) && decide (x ≤ b)
theorem inB_t (x a b : Int) (h1 : a ≤ x) (h2 : x ≤ b) : inB x a b = true := by unfold inB; simp [h1, h2]
theorem inB_f (x a b : Int) (h : ¬ (a ≤ x ∧ x ≤ b)) : inB x a b = false := by unfold inB; simp; omega
theorem inB_iff (x a b : Int) : inB x a b = true ↔ a ≤ x ∧ x ≤ b := by unfold inB; simp
theorem in_any (x a b : Int) (w : World) : Calls Tryz.prog 61 #[.int .i64 x, .int .i64 a, .int .i64 b] w fun e w' => e = .returned (.bool (inB x a b)) ∧ w' = w := by
 unfold inB
 by_cases h1 : a ≤ x
 ·
  rw [decide_eq_true h1, Bool.true_and]
  go_enter Tryz.func61, Tryz.ntmps61
  go_wp2
  go_ret
  exact ⟨rfl, rfl⟩
 ·
  rw [decide_eq_false h1, Bool.false_and]
  have h3 : decide (a ≤ x) = false := decide_eq_false h1
  go_enter Tryz.func61, Tryz.ntmps61
  go_wp2
  go_ret
  exact ⟨rfl, rfl⟩
theorem i64_and65535 (n : Int) : bits .and .i64 n 65535 = n % 65536 := by
 have h127 : (BitVec.ofInt 64 65535).toNat = 2 ^ 16 - 1 := by decide
 have key : (BitVec.ofInt 64 n &&& BitVec.ofInt 64 65535).toNat = (n % ((2 ^ 64 : Nat) : Int)).toNat % 2 ^ 16 := by
  rw [BitVec.toNat_and, BitVec.toNat_ofInt, h127, Nat.and_two_pow_sub_one_eq_mod]
 show IntKind.i64.wrap ((BitVec.ofInt 64 n &&& BitVec.ofInt 64 65535).toNat : Nat) = n % 65536
 rw [key, IntKind.wrap_i64]
 omega
theorem ret_int {k : IntKind} {a b : Int} (h : a = b) : Ending.returned (.int k a) = .returned (.int k b) := by rw [h]
theorem ret_bool {a b : Bool} (h : a = b) : Ending.returned (.bool a) = .returned (.bool b) := by rw [h]
theorem wrapI_any (n : Int) (w : World) : Calls Tryz.prog 153 #[.int .i64 n] w fun e w' => e = .returned (.int .i64 (n % 65536)) ∧ w' = w := by
 go_enter Tryz.func153, Tryz.ntmps153
 go_wp2
 go_ret
 exact ⟨ret_int (i64_and65535 n), rfl⟩
theorem wrapS_any (n : Int) (w : World) : Calls Tryz.prog 157 #[.int .i64 n] w fun e w' => e = .returned (.int .i64 (n % 65536)) ∧ w' = w := by
 go_enter Tryz.func157, Tryz.ntmps157
 go_wp2
 go_ret
 exact ⟨ret_int (i64_and65535 n), rfl⟩
theorem isWord_eq (n : Int) : (n == n % 65536) = inB n 0 65535 := by
 unfold inB
 rw [Bool.eq_iff_iff]
 simp
 omega
theorem isWord_any (n : Int) (w : World) : Calls Tryz.prog 130 #[.int .i64 n] w fun e w' => e = .returned (.bool (inB n 0 65535)) ∧ w' = w := by
 rw [← isWord_eq]
 obtain ⟨q, hq⟩ : ∃ q, n % 65536 = q := ⟨_, rfl⟩
 have W := hide (fun w => hq ▸ wrapI_any n w)
 rw [hq]
 clear hq
 go_enter Tryz.func130, Tryz.ntmps130
 go_wp2_with (go_at_call 153; refine (uh W _).mono ?_; rintro e w' ⟨rfl, rfl⟩)
 go_ret
 exact ⟨rfl, rfl⟩
def bAt (xs : List UInt8) (i : Nat) : Int := ((xs.getD i 0).toNat : Int)
theorem bAt_bd (xs : List UInt8) (i : Nat) : 0 ≤ bAt xs i ∧ bAt xs i ≤ 255 := by
 unfold bAt
 have := (xs.getD i 0).toNat_lt
 omega
theorem sAt (s : ByteArray) (k : Nat) (h : k < s.size) : ((s[k]'h).toNat : Int) = bAt s.data.toList k := by
 unfold bAt
 rw [List.getD_eq_getElem?_getD, List.getElem?_eq_getElem (by simpa using h)]
 rfl
theorem i64_and7 (n : Int) : bits .and .i64 n 7 = n % 8 := by
 have h127 : (BitVec.ofInt 64 7).toNat = 2 ^ 3 - 1 := by decide
 have key : (BitVec.ofInt 64 n &&& BitVec.ofInt 64 7).toNat = (n % ((2 ^ 64 : Nat) : Int)).toNat % 2 ^ 3 := by
  rw [BitVec.toNat_and, BitVec.toNat_ofInt, h127, Nat.and_two_pow_sub_one_eq_mod]
 show IntKind.i64.wrap ((BitVec.ofInt 64 n &&& BitVec.ofInt 64 7).toNat : Nat) = n % 8
 rw [key, IntKind.wrap_i64]
 omega
theorem ret_str {a b : ByteArray} (h : a = b) : Ending.returned (.string a) = .returned (.string b) := by rw [h]
def dg (x : Nat) : UInt8 := UInt8.ofNat (48 + x)
def octF : Nat → Nat → List UInt8
 | 0, n => [dg n]
 | k + 1, n => if n < 8 then [dg n] else octF k (n / 8) ++ [dg (n % 8)]
theorem octF_same (k : Nat) : ∀ j n, n ≤ k → n ≤ j → octF k n = octF j n := by
 induction k with
 | zero =>
  intro j n h1 h2
  obtain rfl : n = 0 := by omega
  cases j with
  | zero => rfl
  | succ j => rfl
 | succ k ih =>
  intro j n h1 h2
  cases j with
  | zero =>
   obtain rfl : n = 0 := by omega
   rfl
  | succ j =>
   show (if n < 8 then [dg n] else octF k (n / 8) ++ [dg (n % 8)]) = (if n < 8 then [dg n] else octF j (n / 8) ++ [dg (n % 8)])
   by_cases h : n < 8
   · rw [if_pos h, if_pos h]
   · rw [if_neg h, if_neg h, ih j (n / 8) (by omega) (by omega)]
def octD (n : Nat) : List UInt8 := octF n n
theorem octD_step (n : Nat) : octD n = if n < 8 then [dg n] else octD (n / 8) ++ [dg (n % 8)] := by
 unfold octD
 rw [octF_same n (n + 1) n (Nat.le_refl _) (by omega)]
 show (if n < 8 then [dg n] else octF n (n / 8) ++ [dg (n % 8)]) = _
 rw [octF_same n (n / 8) (n / 8) (by omega) (Nat.le_refl _)]
theorem octD_small (n : Nat) (h : n < 8) : octD n = [dg n] := by rw [octD_step, if_pos h]
theorem octD_big (n : Nat) (h : ¬ n < 8) : octD n = octD (n / 8) ++ [dg (n % 8)] := by rw [octD_step, if_neg h]
def octP (n : Nat) : List UInt8 := if n < 8 then [] else octD (n / 8)
theorem octD_split (n : Nat) : octD n = octP n ++ [dg (n % 8)] := by
 unfold octP
 by_cases h : n < 8
 · rw [if_pos h, octD_small n h, Nat.mod_eq_of_lt h]; rfl
 · rw [if_neg h, octD_big n h]
theorem octD_len (n : Nat) : ∀ k, n < 8 ^ (k + 1) → (octD n).length ≤ k + 1 := by
 intro k
 induction k generalizing n with
 | zero => intro h; rw [octD_small n (by omega)]; simp
 | succ k ih =>
  intro h
  by_cases h8 : n < 8
  · rw [octD_small n h8]; simp
  ·
   rw [octD_big n h8, List.length_append]
   have := ih (n / 8) (by rw [Nat.pow_succ] at h; omega)
   simp; omega
def strOf (l : List UInt8) : ByteArray := ⟨l.toArray⟩
theorem strOf_size (l : List UInt8) : (strOf l).size = l.length := by show l.toArray.size = _; simp
theorem strOf_of (s : ByteArray) : strOf s.data.toList = s := by apply ByteArray.ext; simp [strOf]
theorem strOf_append (a b : List UInt8) : strOf a ++ strOf b = strOf (a ++ b) := by apply ByteArray.ext; show (strOf a ++ strOf b).data = _; rw [ByteArray.data_append]; simp [strOf]
theorem one_conv (W : World) (d : Nat) (hd : d < 8) (x : Int) (hx : x = 48 + (d : Int)) (b : Nat) (hb : b = W.heap.size) : (convert 22 9 (.slice (some ⟨b, 0, none⟩) 1 1)).run Tryz.prog (W.alloc (.cells #[.int .u8 x] 5)) = .ok (.string (strOf [dg d])) (W.alloc (.cells #[.int .u8 x] 5)) := by
 subst hb
 exact run_convert_bytes_back (P := Tryz.prog) (W.alloc (.cells #[.int .u8 x] 5)) 22 9 5 ⟨W.heap.size, 0, none⟩ 1 [dg d] Tryz.underlying22 Tryz.underlying5 Tryz.underlying9 (fun j hj => by
  obtain rfl : j = 0 := by simp at hj; omega
  have e : ((dg d).toNat : Int) = x := by unfold dg; simp; omega
  simp only [List.getElem_cons_zero, e]
  simp [Addr.add])
theorem octS_any (n : Int) (w : World) : Calls Tryz.prog 122 #[.int .i64 n] w fun e w' => e = .returned (.string (strOf (octD (n % 65536).toNat))) ∧ Below w.heap.size w w' := by
 obtain ⟨N, hN⟩ := Int.eq_ofNat_of_zero_le (Int.emod_nonneg n (show (65536 : Int) ≠ 0 by omega))
 have hlt : N < 65536 := by have := Int.emod_lt_of_pos n (show (0 : Int) < 65536 by omega); omega
 rw [hN, Int.toNat_natCast]
 have h7 := i64_and7 N
 have hc := one_conv w (N % 8) (by omega) (48 + (N : Int) % 8) (by omega)
 have HN := hide hN
 clear hN
 go_enter Tryz.func122, Tryz.ntmps122
 go_wp2_with fail
 refine (wrapS_any n w).mono ?_
 rintro e w' ⟨he, hw'⟩
 rw [uh HN] at he
 rw [hw', he]
 clear hw' he w'
 go_wp2
 clear h7 hc
 go_loopw [0, 3] (fun i s wr => ∃ (m : Nat) (t : List UInt8), m < 65536 ∧ t.length ≤ 6 ∧ i = .int .i64 m ∧ s = .string (strOf t) ∧ Hid (octD N = octP m ++ t) ∧ Below w.heap.size w wr) (fun i _ _ => (intOf i).toNat)
 case atStart => exact ⟨N, [dg (N % 8)], hlt, by simp, rfl, rfl, octD_split N, (Below.refl _ _).alloc (Nat.le_refl _) _⟩
 case round =>
  obtain ⟨m, t, hm, ht, rfl, rfl, hsp, hbel⟩ := hrel
  by_cases h8 : m < 8
  ·
   go_wp2
   go_ret
   refine ⟨ret_str ?_, hbel⟩
   rw [hsp.out, octP, if_pos h8, List.nil_append]
  ·
   have h7 := i64_and7 ((m : Int) / 8)
   have hc := one_conv wr (m / 8 % 8) (by omega) (48 + (m : Int) / 8 % 8) (by omega)
   have hsz : (strOf t).size ≤ 6 := by rw [strOf_size]; exact ht
   have hsz1 := strOf_size [dg (m / 8 % 8)]
   go_wp2
   have hsp' : octD N = octP (m / 8) ++ (dg (m / 8 % 8) :: t) := by
    have h1 := hsp.out
    rw [octP, if_neg h8, octD_split (m / 8)] at h1
    rw [h1]; simp
   have hlen : (dg (m / 8 % 8) :: t).length ≤ 6 := by
    have h2 := octD_len N 5 (by omega)
    rw [hsp', List.length_append] at h2
    omega
   go_roundw
   case rel => exact ⟨m / 8, dg (m / 8 % 8) :: t, by omega, hlen, by go_num, by rw [strOf_append]; rfl, hsp', hbel.alloc hbel.size _⟩
   case measure => simp [intOf]; omega
theorem pow2_any (w : World) : Calls Tryz.prog 237 #[.int .i64 8] w fun e w' => e = .returned (.bool true) ∧ w' = w := by
 have h : bits BinOp.and IntKind.i64 8 7 = 0 := by decide +kernel
 go_enter Tryz.func237, Tryz.ntmps237
 go_wp2
 go_ret
 exact ⟨rfl, rfl⟩
theorem tz_num : IntKind.u64.wrap (bits BinOp.and IntKind.u64 8 (IntKind.u64.wrap (-8)) * 285870213051353865) / 288230376151711744 = 7 := by decide +kernel
theorem tz_any (w : World) (hg : w.cell? ⟨11, 7, none⟩ = some (.int .u8 3)) : Calls Tryz.prog 238 #[.int .u64 8] w fun e w' => e = .returned (.int .i64 3) ∧ w' = w := by
 have hm := tz_num
 go_enter Tryz.func238, Tryz.ntmps238
 go_wp2
 go_ret
 exact ⟨rfl, rfl⟩
def bOf (xs : List UInt8) (i : Nat) : Int := ((xs.getD i 0).toNat : Int)
def tail65 (t : List UInt8) (p j : Nat) : Value := if j < p then .int .u8 0 else .int .u8 (bOf t (j - p))
theorem u64_and7 (m : Nat) (hm : m < 65536) : bits .and .u64 (m : Int) 7 = ((m % 8 : Nat) : Int) := by
 have := bits_mask .u64 63 (by decide) (fun n a b => by rw [IntKind.wrap_u64]; omega) 3 (by decide) (m : Int) (by omega) (by omega)
 have e : (2 : Int) ^ 3 - 1 = 7 := by decide
 rw [e] at this
 rw [this]
 omega
def z65 : Array Value := (List.replicate 65 (Value.int .u8 0)).toArray
theorem z65_size : z65.size = 65 := by unfold z65; rw [List.size_toArray, List.length_replicate]
theorem z65_get (i : Nat) (h : i < 65) : z65[i]? = some (Value.int .u8 0) := by unfold z65; rw [List.getElem?_toArray, List.getElem?_replicate, if_pos h]
theorem row65 (w : World) : (w.alloc (Obj.cells z65 264)).rowIs w.heap.size 264 65 (tail65 [] 65) := by
 have h := World.rowIs_alloc w z65 264 (fun _ => .int .u8 0) (fun i hi => z65_get i (by rw [z65_size] at hi; exact hi))
 rw [z65_size] at h
 exact h.congr (fun j hj => by simp [tail65, hj])
theorem zero65 (w : World) : (zeroValue 264).run Tryz.prog w = .ok (.agg z65) w := by kernel_rfl
theorem digit_at (d : Nat) (h8 : d < 8) : ∀ h, (({ data := #[48, 49, 50, 51, 52, 53, 54, 55, 56, 57, 97, 98, 99, 100, 101, 102, 103, 104, 105, 106, 107, 108, 109, 110, 111, 112, 113, 114, 115, 116, 117, 118, 119, 120, 121, 122] } : ByteArray)[d]'h).toNat = 48 + d := by
 match d, h8 with
 | 0, _ => intro h; rfl
 | 1, _ => intro h; rfl
 | 2, _ => intro h; rfl
 | 3, _ => intro h; rfl
 | 4, _ => intro h; rfl
 | 5, _ => intro h; rfl
 | 6, _ => intro h; rfl
 | 7, _ => intro h; rfl
theorem dg_val (d : Nat) (h : d < 8) : ((dg d).toNat : Int) = 48 + d := by unfold dg; simp; omega
theorem tail_step {W : World} {b p : Nat} {t : List UInt8} (h : W.rowIs b 264 65 (tail65 t p)) (hp1 : 1 ≤ p) (d : Nat) (hd : d < 8) (x : Int) (hx : x = 48 + (d : Int)) : (W.setCell ⟨b, p - 1, none⟩ (.int .u8 x)).rowIs b 264 65 (tail65 (dg d :: t) (p - 1)) := by
 refine (h.set (p - 1) (.int .u8 x)).congr (fun j hj => ?_)
 by_cases e : j = p - 1
 ·
  subst e
  rw [if_pos rfl]
  unfold tail65
  rw [if_neg (by omega), Nat.sub_self]
  have : bOf (dg d :: t) 0 = x := by rw [hx, ← dg_val d hd]; rfl
  rw [this]
 ·
  rw [if_neg e]
  unfold tail65
  by_cases e2 : j < p - 1
  · rw [if_pos (by omega), if_pos e2]
  ·
   rw [if_neg (by omega), if_neg e2]
   have : j - (p - 1) = (j - p) + 1 := by omega
   rw [this]
   rfl
theorem tail_conv {W : World} {b p : Nat} {t : List UInt8} (h : W.rowIs b 264 65 (tail65 t p)) (hp : p + t.length = 65) (n c : Nat) (hn : n = t.length) : (convert 22 9 (.slice (some ⟨b, p, none⟩) n c)).run Tryz.prog W = .ok (.string (strOf t)) W := by
 subst hn
 exact run_convert_bytes_back (P := Tryz.prog) W 22 9 5 ⟨b, p, none⟩ c t Tryz.underlying22 Tryz.underlying5 Tryz.underlying9 (fun j hj => by
  have h2 := h.cell (i := p + j) (by omega)
  unfold tail65 at h2
  rw [if_neg (by omega), Nat.add_sub_cancel_left] at h2
  have e : bOf t j = (t[j].toNat : Int) := by unfold bOf; rw [List.getD_eq_getElem?_getD, List.getElem?_eq_getElem hj]; rfl
  rw [e] at h2
  unfold Addr.add
  by_cases h0 : j = 0
  · subst h0; simpa using h2
  · simpa [h0] using h2)
theorem slice65 (b p : Nat) (h1 : 1 ≤ p) (h2 : p ≤ 65) (W : World) : (Instr.sliceAt 264 (.pointer (some ⟨b, 0, none⟩)) (some (.int .i64 ((p : Int) - 1))) none none).run Tryz.prog W = .ok (.slice (some ⟨b, p - 1, none⟩) (65 - (p - 1)) (65 - (p - 1))) W := by
 have hal : Tryz.prog.arrayLen 264 = 65 := by simp [Program.arrayLen, Tryz.underlying264]
 rw [run_sliceAt_array_l W 264 ⟨b, 0, none⟩ (by simp [Program.arrayLen, Program.elem, Tryz.underlying264]) .i64 ((p : Int) - 1) (by omega) (by rw [hal]; omega)]
 have e : ((p : Int) - 1).toNat = p - 1 := by omega
 have hne : ¬ 65 = p - 1 := by omega
 rw [hal, e]
 go_simp
theorem fmtBits_any (N : Nat) (hN : N < 65536) (w : World) (hg : w.cell? ⟨11, 7, none⟩ = some (.int .u8 3)) :
  Calls Tryz.prog 221 #[.slice none 0 0, .int .u64 N, .int .i64 8, .bool false, .bool false] w fun e w' => e = .returned (.tuple #[.slice none 0 0, .string (strOf (octD N))]) ∧ Below w.heap.size w w' := by
 have hlt := World.block_lt_of_cell? w _ hg
 have hlt4 : 11 < w.heap.size := hlt
 have HG : ∀ o, (w.alloc o).cell? ⟨11, 7, none⟩ = some (.int .u8 3) := fun o => by rw [World.cell?_alloc_past _ _ _ hlt4]; exact hg
 have HG' := hide HG
 clear HG hg hlt
 have hz := zero65
 go_enter Tryz.func221, Tryz.ntmps221
 go_wp2_with (first | (go_at_call 237; refine (pow2_any _).mono ?_; rintro e w' ⟨rfl, hw'⟩; rw [hw']; clear hw' w') | (go_at_call 238; refine (tz_any _ (by exact uh HG' _)).mono ?_; rintro e w' ⟨rfl, hw'⟩; rw [hw']; clear hw' w'))
 have R0' := hide (row65 w)
 clear hz
 go_loopw [1, 13] (fun u i wr => ∃ (m : Nat) (t : List UInt8) (p : Nat), m < 65536 ∧ p + t.length = 65 ∧ t.length ≤ 6 ∧ u = .int .u64 m ∧ i = .int .i64 p ∧ Hid (octD N = octD m ++ t) ∧ wr.rowIs w.heap.size 264 65 (tail65 t p) ∧ Below w.heap.size w wr) (fun u _ _ => (intOf u).toNat)
 case atStart => exact ⟨N, [], 65, hN, rfl, by simp, rfl, rfl, by show octD N = _; simp, uh R0', (Below.refl _ _).alloc (Nat.le_refl _) _⟩
 case round =>
  obtain ⟨m, t, p, hm, hp, ht, rfl, rfl, hsp, hrow, hbel⟩ := hrel
  clear R0'
  have hp1 : 59 ≤ p := by omega
  by_cases h8 : m < 8
  ·
   have hdig := digit_at m h8
   have hfz := hrow.frozen (p - 1)
   have hco := hrow.cell (i := p - 1) (by omega)
   have R1 := tail_step hrow (by omega) m h8 (48 + (m : Int)) rfl
   have hcv := tail_conv R1 (by rw [List.length_cons]; omega) (65 - (p - 1)) (65 - (p - 1)) (by rw [List.length_cons]; omega)
   have hsl := slice65 w.heap.size p (by omega) (by omega)
   have R1' := hide R1
   clear R1 hrow
   go_wp2
   go_ret2
   refine ⟨?_, hbel.setCell (p := ⟨w.heap.size, p - 1, none⟩) (Nat.le_refl _) _⟩
   rw [hsp.out, octD_small m h8]
   rfl
  ·
   have h7 := u64_and7 m hm
   have hdig := digit_at (m % 8) (by omega)
   have hfz := hrow.frozen (p - 1)
   have hco := hrow.cell (i := p - 1) (by omega)
   have R1 := hide (tail_step hrow (by omega) (m % 8) (by omega) (48 + (m : Int) % 8) (by omega))
   have hsp' : octD N = octD (m / 8) ++ (dg (m % 8) :: t) := by
    have h1 := hsp.out
    rw [octD_big m h8] at h1
    rw [h1]; simp
   have hlen : (dg (m % 8) :: t).length ≤ 6 := by
    have h2 := octD_len N 5 (by omega)
    rw [hsp', List.length_append] at h2
    omega
   have HS := hide hsp'
   have HL := hide hlen
   clear hrow hsp' hlen
   go_wp2
   go_roundw
   case rel => exact ⟨m / 8, dg (m % 8) :: t, p - 1, by omega, by rw [List.length_cons]; omega, uh HL, by go_num, by go_num, uh HS, uh R1, hbel.setCell (p := ⟨w.heap.size, p - 1, none⟩) (Nat.le_refl _) _⟩
   case measure => simp [intOf]; omega
theorem fmtInt_any (N : Nat) (hN : N < 65536) (w : World) (hg : w.cell? ⟨11, 7, none⟩ = some (.int .u8 3)) :
  Calls Tryz.prog 196 #[.int .i64 N, .int .i64 8] w fun e w' => e = .returned (.string (strOf (octD N))) ∧ Below w.heap.size w w' := by
 have H := hide (fmtBits_any N hN w hg)
 clear hg
 go_enter Tryz.func196, Tryz.ntmps196
 go_wp2_with fail
 refine (uh H).mono ?_
 rintro e w1 ⟨rfl, hb⟩
 go_wp2
 go_ret
 exact ⟨rfl, hb⟩
theorem octI_any (n : Int) (w : World) (hg : w.cell? ⟨11, 7, none⟩ = some (.int .u8 3)) :
  Calls Tryz.prog 105 #[.int .i64 n] w fun e w' => e = .returned (.string (strOf (octD (n % 65536).toNat))) ∧ Below w.heap.size w w' := by
 obtain ⟨N, hN⟩ := Int.eq_ofNat_of_zero_le (Int.emod_nonneg n (show (65536 : Int) ≠ 0 by omega))
 have hlt : N < 65536 := by have := Int.emod_lt_of_pos n (show (0 : Int) < 65536 by omega); omega
 rw [hN, Int.toNat_natCast]
 have HN := hide hN
 have H := hide (fmtInt_any N hlt w hg)
 clear hN hg
 go_enter Tryz.func105, Tryz.ntmps105
 go_wp2_with fail
 refine (wrapI_any n w).mono ?_
 rintro e w' ⟨he, hw'⟩
 rw [uh HN] at he
 rw [hw', he]
 clear hw' he w'
 go_wp2_with (first | (go_at_call 196; refine (uh H).mono ?_; rintro e w1 ⟨rfl, hb⟩) | go_in)
 go_ret
 exact ⟨rfl, hb⟩
def smB (c : Int) : Bool := inB c 97 122
def dgB (c : Int) : Bool := inB c 48 57
def ldB (c : Int) : Bool := smB c || dgB c
theorem smI_any (c : Int) (w : World) : Calls Tryz.prog 65 #[.int .u8 c] w fun e w' => e = .returned (.bool (smB c)) ∧ w' = w := by
 unfold smB inB
 cases h : decide (97 ≤ c)
 ·
  go_enter Tryz.func65, Tryz.ntmps65
  go_wp2
  go_ret
  exact ⟨rfl, rfl⟩
 ·
  go_enter Tryz.func65, Tryz.ntmps65
  go_wp2
  go_ret
  exact ⟨rfl, rfl⟩
theorem dgI_any (c : Int) (w : World) : Calls Tryz.prog 66 #[.int .u8 c] w fun e w' => e = .returned (.bool (dgB c)) ∧ w' = w := by
 unfold dgB inB
 cases h : decide (48 ≤ c)
 ·
  go_enter Tryz.func66, Tryz.ntmps66
  go_wp2
  go_ret
  exact ⟨rfl, rfl⟩
 ·
  go_enter Tryz.func66, Tryz.ntmps66
  go_wp2
  go_ret
  exact ⟨rfl, rfl⟩
theorem ldI_any (c : Int) (w : World) : Calls Tryz.prog 67 #[.int .u8 c] w fun e w' => e = .returned (.bool (ldB c)) ∧ w' = w := by
 have H1 := hide (fun w => smI_any c w)
 have H2 := hide (fun w => dgI_any c w)
 unfold ldB
 generalize smB c = a at *
 generalize dgB c = b at *
 cases a
 ·
  go_enter Tryz.func67, Tryz.ntmps67
  go_wp2_with (first | (go_at_call 65; refine (uh H1 _).mono ?_; rintro e w' ⟨rfl, rfl⟩) | (go_at_call 66; refine (uh H2 _).mono ?_; rintro e w' ⟨rfl, rfl⟩))
  go_ret
  exact ⟨rfl, rfl⟩
 ·
  go_enter Tryz.func67, Tryz.ntmps67
  go_wp2_with (first | (go_at_call 65; refine (uh H1 _).mono ?_; rintro e w' ⟨rfl, rfl⟩) | (go_at_call 66; refine (uh H2 _).mono ?_; rintro e w' ⟨rfl, rfl⟩))
  go_ret
  exact ⟨rfl, rfl⟩
theorem smS_any (c : Int) (w : World) (h0 : 0 ≤ c) (h1 : c ≤ 255) : Calls Tryz.prog 168 #[.int .u8 c] w fun e w' => e = .returned (.bool (smB c)) ∧ w' = w := by
 unfold smB
 go_enter Tryz.func168, Tryz.ntmps168
 go_wp2_with (go_at_call 61; refine (in_any _ _ _ _).mono ?_; rintro e w' ⟨rfl, rfl⟩)
 go_ret
 exact ⟨rfl, rfl⟩
theorem dgS_any (c : Int) (w : World) (h0 : 0 ≤ c) (h1 : c ≤ 255) : Calls Tryz.prog 171 #[.int .u8 c] w fun e w' => e = .returned (.bool (dgB c)) ∧ w' = w := by
 unfold dgB
 go_enter Tryz.func171, Tryz.ntmps171
 go_wp2_with (go_at_call 61; refine (in_any _ _ _ _).mono ?_; rintro e w' ⟨rfl, rfl⟩)
 go_ret
 exact ⟨rfl, rfl⟩
def okAt (l : List UInt8) (i : Nat) : Bool := smB (bAt l i) || (decide (0 < i) && dgB (bAt l i))
def formB (l : List UInt8) : Bool := (List.range l.length).all (okAt l) && inB l.length 1 6
theorem formB_no {l : List UInt8} {k : Nat} (h : k < l.length) (hk : okAt l k = false) : formB l = false := by
 unfold formB
 have : (List.range l.length).all (okAt l) = false := by
  rw [List.all_eq_false]
  exact ⟨k, List.mem_range.2 h, by rw [hk]; decide⟩
 rw [this, Bool.false_and]
theorem formB_all {l : List UInt8} (h : ∀ k, k < l.length → okAt l k = true) : formB l = inB l.length 1 6 := by
 unfold formB
 have : (List.range l.length).all (okAt l) = true := by
  rw [List.all_eq_true]
  exact fun k hk => h k (List.mem_range.1 hk)
 rw [this, Bool.true_and]
theorem formB_len {l : List UInt8} (h : ¬ (1 ≤ l.length ∧ l.length ≤ 6)) : formB l = false := by
 unfold formB
 rw [inB_f _ _ _ (by omega), Bool.and_false]
theorem size_len (s : ByteArray) : s.data.toList.length = s.size := by simp
theorem empty_of (s : ByteArray) (h : s.size = 0) : s = ⟨#[]⟩ := by apply ByteArray.ext; exact Array.eq_empty_of_size_eq_zero h
theorem emp_no (s : ByteArray) (h : s.size ≠ 0) : s.toList.isEmpty = false := by
 rw [← decide_eq_emptyBytes]
 exact decide_eq_false (fun e => h (by rw [e]; rfl))
theorem formS_any (s : ByteArray) (w : World) (hmax : s.size ≤ 1099511627776) : Calls Tryz.prog 136 #[.string s] w fun e w' => e = .returned (.bool (formB s.data.toList)) ∧ w' = w := by
 have hl := size_len s
 obtain ⟨q, hq⟩ : ∃ q, formB s.data.toList = q := ⟨_, rfl⟩
 have NO := hide (fun k hk h => (formB_no (l := s.data.toList) (k := k) hk h).symm.trans hq)
 have YES := hide (fun h => (formB_all (l := s.data.toList) h).symm.trans hq)
 rw [hl] at NO YES
 rw [hq]
 clear hq
 go_enter Tryz.func136, Tryz.ntmps136
 go_wp2
 go_loop [3] (fun i => ∃ k : Nat, i = .int .i64 k ∧ k ≤ s.size ∧ Hid (∀ j, j < k → okAt s.data.toList j = true)) (fun i => s.size - (intOf i).toNat)
 case atStart => exact ⟨0, rfl, by omega, fun j hj => by omega⟩
 case round =>
  obtain ⟨k, rfl, hk, hd⟩ := hrel
  by_cases hlt : k < s.size
  ·
   have he := sAt s k hlt
   have hbd := bAt_bd s.data.toList k
   have N1 := hide (uh NO k hlt)
   have hd1 : okAt s.data.toList k = true → ∀ j, j < k + 1 → okAt s.data.toList j = true := fun h j hj => by
    by_cases e : j = k
    · subst e; exact h
    · exact hd.out j (by omega)
   have HD := hide hd1
   have S1 := hide (fun w => smS_any (bAt s.data.toList k) w hbd.1 hbd.2)
   have D1 := hide (fun w => dgS_any (bAt s.data.toList k) w hbd.1 hbd.2)
   have OK := hide (show okAt s.data.toList k = (smB (bAt s.data.toList k) || (decide (0 < k) && dgB (bAt s.data.toList k))) from rfl)
   generalize smB (bAt s.data.toList k) = p at S1 OK
   generalize dgB (bAt s.data.toList k) = r at D1 OK
   generalize bAt s.data.toList k = c at he hbd S1 D1
   clear hd hd1
   cases p
   ·
    by_cases hz : k = 0
    ·
     subst hz
     have E := hide (uh N1 (by rw [uh OK]; rfl))
     go_wp2_with (first | (go_at_call 168; refine (uh S1 _).mono ?_; rintro e w' ⟨rfl, rfl⟩) | (go_at_call 171; refine (uh D1 _).mono ?_; rintro e w' ⟨rfl, rfl⟩))
     go_ret
     exact ⟨by rw [← uh E]; rfl, rfl⟩
    ·
     have hz1 : ((k : Int) == 0) = false := beq_eq_false_iff_ne.2 (by omega)
     cases r
     ·
      have E := hide (uh N1 (by rw [uh OK]; simp))
      go_wp2_with (first | (go_at_call 168; refine (uh S1 _).mono ?_; rintro e w' ⟨rfl, rfl⟩) | (go_at_call 171; refine (uh D1 _).mono ?_; rintro e w' ⟨rfl, rfl⟩))
      go_ret
      exact ⟨by rw [← uh E]; rfl, rfl⟩
     ·
      have E := hide (uh HD (by rw [uh OK]; simp; omega))
      go_wp2_with (first | (go_at_call 168; refine (uh S1 _).mono ?_; rintro e w' ⟨rfl, rfl⟩) | (go_at_call 171; refine (uh D1 _).mono ?_; rintro e w' ⟨rfl, rfl⟩))
      go_round
      case rel => exact ⟨k + 1, by go_num, by omega, uh E⟩
      case measure => simp [intOf]; omega
   ·
    have E := hide (uh HD (by rw [uh OK]; rfl))
    go_wp2_with (first | (go_at_call 168; refine (uh S1 _).mono ?_; rintro e w' ⟨rfl, rfl⟩) | (go_at_call 171; refine (uh D1 _).mono ?_; rintro e w' ⟨rfl, rfl⟩))
    go_round
    case rel => exact ⟨k + 1, by go_num, by omega, uh E⟩
    case measure => simp [intOf]; omega
  ·
   have E := hide (uh YES (fun j hj => hd.out j (by omega)))
   clear hd
   go_wp2_with (go_at_call 61; refine (in_any _ _ _ _).mono ?_; rintro e w' ⟨rfl, rfl⟩)
   go_ret
   exact ⟨by rw [← uh E]; rfl, rfl⟩
theorem formI_any (s : ByteArray) (w : World) (hmax : s.size ≤ 1099511627776) : Calls Tryz.prog 133 #[.string s] w fun e w' => e = .returned (.bool (formB s.data.toList)) ∧ w' = w := by
 by_cases h0 : s.size = 0
 ·
  obtain rfl := empty_of s h0
  have E := hide (show false = formB (ByteArray.mk #[]).data.toList by decide)
  rw [← uh E]
  go_enter Tryz.func133, Tryz.ntmps133
  go_wp2
  go_ret
  exact ⟨rfl, rfl⟩
 ·
  have hl := size_len s
  have hemp := emp_no s h0
  by_cases h6 : 6 < s.size
  ·
   have E := hide (formB_len (l := s.data.toList) (by omega))
   rw [uh E]
   go_enter Tryz.func133, Tryz.ntmps133
   go_wp2
   go_ret
   exact ⟨rfl, rfl⟩
  ·
   have h6d : decide ((6 : Int) < (s.size : Int)) = false := by simp; omega
   have hlt0 : 0 < s.size := by omega
   have he := sAt s 0 hlt0
   have hbd := bAt_bd s.data.toList 0
   have S0 := hide (fun w => smI_any (bAt s.data.toList 0) w)
   have OK0 := hide (show okAt s.data.toList 0 = smB (bAt s.data.toList 0) by unfold okAt; simp)
   obtain ⟨q, hq⟩ : ∃ q, formB s.data.toList = q := ⟨_, rfl⟩
   have NO := hide (fun k hk h => (formB_no (l := s.data.toList) (k := k) hk h).symm.trans hq)
   have YES := hide (fun h => (formB_all (l := s.data.toList) h).symm.trans hq)
   rw [hl] at NO YES
   have IN := hide (show inB (s.size : Int) 1 6 = true from inB_t _ _ _ (by omega) (by omega))
   rw [hq]
   clear hq
   generalize smB (bAt s.data.toList 0) = p at S0 OK0
   have HE := hide he
   generalize bAt s.data.toList 0 = c0 at he hbd S0
   cases p
   ·
    have E := hide (uh NO 0 hlt0 (uh OK0))
    go_enter Tryz.func133, Tryz.ntmps133
    go_wp2_with (go_at_call 65; refine (uh S0 _).mono ?_; rintro e w' ⟨rfl, rfl⟩)
    go_ret
    exact ⟨by rw [← uh E]; rfl, rfl⟩
   ·
    go_enter Tryz.func133, Tryz.ntmps133
    go_wp2_with (go_at_call 65; refine (uh S0 _).mono ?_; rintro e w' ⟨rfl, rfl⟩)
    clear he hbd S0
    go_loop [19] (fun i => ∃ k : Nat, i = .int .i64 k ∧ k ≤ s.size ∧ Hid (∀ j, j < k → okAt s.data.toList j = true)) (fun i => s.size - (intOf i).toNat)
    case atStart => exact ⟨0, rfl, by omega, fun j hj => by omega⟩
    case round =>
     obtain ⟨k, rfl, hk, hd⟩ := hrel
     by_cases hlt : k < s.size
     ·
      have he := sAt s k hlt
      have hbd := bAt_bd s.data.toList k
      have N1 := hide (uh NO k hlt)
      have hd1 : ldB (bAt s.data.toList k) = true → ∀ j, j < k + 1 → okAt s.data.toList j = true := fun h j hj => by
       by_cases e : j = k
       ·
        subst e
        by_cases hz : j = 0
        · subst hz; exact uh OK0
        · unfold okAt; rw [decide_eq_true (by omega), Bool.true_and]; exact h
       · exact hd.out j (by omega)
      have HD := hide hd1
      have L1 := hide (fun w => ldI_any (bAt s.data.toList k) w)
      have OK := hide (show ldB (bAt s.data.toList k) = false → okAt s.data.toList k = false from fun h => by
       unfold ldB at h
       rw [Bool.or_eq_false_iff] at h
       unfold okAt
       rw [h.1, h.2]; simp)
      generalize ldB (bAt s.data.toList k) = p at L1 OK HD
      generalize bAt s.data.toList k = c at he hbd L1
      clear hd hd1
      cases p
      ·
       have E := hide (uh N1 (uh OK rfl))
       go_wp2_with (go_at_call 67; refine (uh L1 _).mono ?_; rintro e w' ⟨rfl, rfl⟩)
       go_ret
       exact ⟨by rw [← uh E]; rfl, rfl⟩
      ·
       have HE2 := hide (uh HD rfl)
       go_wp2_with (go_at_call 67; refine (uh L1 _).mono ?_; rintro e w' ⟨rfl, rfl⟩)
       go_round
       case rel => exact ⟨k + 1, by go_num, by omega, uh HE2⟩
       case measure => simp [intOf]; omega
     ·
      have E := hide ((uh IN).symm.trans (uh YES (fun j hj => hd.out j (by omega))))
      clear hd
      go_wp2
      go_ret
      exact ⟨by rw [← uh E]; rfl, rfl⟩
theorem wpList_index_at {P : Program} {ops : Array Oper} {rest : List Oper} {o : Oper} {a : Act} {w : World} {Q : Exit → Act → World → Prop} (hgd : o.guard = none) (xt : TypeId) (x ix : Operand) (ho : o.op = .index xt x ix) (cs : Array Value) (i : Int) (v : Value)
  (hx : a.eval x = .agg cs) (hi : a.eval ix = .int .i64 i) (hr : ∀ w, (Instr.index xt (.agg cs) (.int .i64 i)).run P w = .ok v w) (h : wpList P ops Q rest (a.put o.dst v) w) : wpList P ops Q (o :: rest) a w :=
 wpList_plain hgd fun _ hK => by
  unfold Oper.wp execOp
  simp only [ho, hx, hi, hr, Sem.run_bind, Sem.run_pure, Result.andThen_ok]
  exact hK _ _ h
def eqS (a b : ByteArray) : Bool := a.toList == b.toList
theorem eqS_iff (a b : ByteArray) : eqS a b = true ↔ a = b := by
 unfold eqS
 rw [ByteArray.toList_eq, ByteArray.toList_eq]
 exact ⟨fun h => bytes_inj (eq_of_beq h), fun h => by rw [h]; exact beq_self_eq_true _⟩
def E0 : ByteArray := ⟨#[]⟩
def hasS (L : List ByteArray) (s : ByteArray) : Bool := L.any (fun t => eqS t s)
theorem hasS_hit {L : List ByteArray} {s : ByteArray} {k : Nat} (h : k < L.length) (he : eqS (L.getD k E0) s = true) : hasS L s = true := by
 unfold hasS
 rw [List.any_eq_true]
 refine ⟨L[k], List.getElem_mem _, ?_⟩
 rw [List.getD_eq_getElem?_getD, List.getElem?_eq_getElem h] at he
 exact he
theorem hasS_miss {L : List ByteArray} {s : ByteArray} (h : ∀ k, k < L.length → eqS (L.getD k E0) s = false) : hasS L s = false := by
 unfold hasS
 rw [List.any_eq_false]
 intro t ht
 obtain ⟨k, hk, rfl⟩ := List.getElem_of_mem ht
 have := h k hk
 rw [List.getD_eq_getElem?_getD, List.getElem?_eq_getElem hk] at this
 simp only [Option.getD_some] at this
 rw [this]
 decide
theorem hasS_iff {L : List ByteArray} {s : ByteArray} : hasS L s = true ↔ s ∈ L := by
 unfold hasS
 rw [List.any_eq_true]
 constructor
 ·
  rintro ⟨t, ht, he⟩
  rw [eqS_iff] at he
  exact he ▸ ht
 · exact fun h => ⟨s, h, (eqS_iff _ _).2 rfl⟩
def wOp : List ByteArray := [⟨#[109, 111, 118]⟩, ⟨#[99, 109, 112]⟩, ⟨#[98, 105, 99]⟩, ⟨#[98, 105, 115]⟩, ⟨#[97, 100, 100]⟩, ⟨#[115, 117, 98]⟩, ⟨#[99, 108, 114]⟩, ⟨#[105, 110, 99]⟩, ⟨#[100, 101, 99]⟩, ⟨#[110, 101, 103]⟩, ⟨#[116, 115, 116]⟩, ⟨#[97, 115, 114]⟩, ⟨#[97, 115, 108]⟩, ⟨#[106, 109, 112]⟩, ⟨#[106, 115, 114]⟩, ⟨#[114, 116, 115]⟩, ⟨#[98, 114]⟩, ⟨#[98, 110, 101]⟩, ⟨#[98, 101, 113]⟩, ⟨#[98, 103, 101]⟩, ⟨#[98, 108, 116]⟩, ⟨#[104, 97, 108, 116]⟩, ⟨#[101, 109, 116]⟩]
def wRg : List ByteArray := [⟨#[114, 48]⟩, ⟨#[114, 49]⟩, ⟨#[114, 50]⟩, ⟨#[114, 51]⟩, ⟨#[114, 52]⟩, ⟨#[114, 53]⟩, ⟨#[115, 112]⟩, ⟨#[112, 99]⟩]
def opL : List ByteArray := E0 :: wOp
def keptL : List ByteArray := wOp ++ wRg
def keptB (s : ByteArray) : Bool := hasS keptL s
theorem keptB_op {s : ByteArray} (h0 : s.size ≠ 0) {k : Nat} (hk : k < 24) (he : eqS (opL.getD k E0) s = true) : keptB s = true := by
 have h1 : s ∈ opL := hasS_iff.1 (hasS_hit (L := opL) hk he)
 unfold keptB
 rw [hasS_iff]
 unfold opL at h1
 rcases List.mem_cons.1 h1 with e | h
 · rw [e] at h0; exact absurd rfl h0
 · exact List.mem_append_left _ h
theorem keptB_rg {s : ByteArray} {k : Nat} (hk : k < 8) (he : eqS (wRg.getD k E0) s = true) : keptB s = true := by
 have h1 : s ∈ wRg := hasS_iff.1 (hasS_hit (L := wRg) hk he)
 unfold keptB
 rw [hasS_iff]
 exact List.mem_append_right _ h1
theorem keptB_no {s : ByteArray} (h1 : ∀ k, k < 24 → eqS (opL.getD k E0) s = false) (h2 : ∀ k, k < 8 → eqS (wRg.getD k E0) s = false) : keptB s = false := by
 cases h : keptB s
 · rfl
 ·
  unfold keptB at h
  rw [hasS_iff] at h
  rcases List.mem_append.1 h with h | h
  ·
   have e := hasS_iff.2 (List.mem_cons_of_mem E0 h)
   rw [hasS_miss (L := E0 :: wOp) h1] at e
   cases e
  ·
   have e := hasS_iff.2 h
   rw [hasS_miss (L := wRg) h2] at e
   cases e
theorem keptB_empty : keptB ⟨#[]⟩ = false := by decide +kernel
def atV (L : List ByteArray) (s : ByteArray) : Int := if hasS L s = true then ((L.findIdx (fun t => eqS t s) : Nat) : Int) else -1
theorem atV_yes {L : List ByteArray} {s : ByteArray} (h : hasS L s = true) : 0 ≤ atV L s := by unfold atV; rw [if_pos h]; omega
theorem atV_no {L : List ByteArray} {s : ByteArray} (h : hasS L s = false) : atV L s = -1 := by unfold atV; rw [h]; rfl
theorem atV_hit {L : List ByteArray} {s : ByteArray} {k : Nat} (hk : k < L.length) (hm : ∀ j, j < k → eqS (L.getD j E0) s = false) (he : eqS (L.getD k E0) s = true) : atV L s = k := by
 unfold atV
 rw [if_pos (hasS_hit hk he)]
 have : L.findIdx (fun t => eqS t s) = k := by
  rw [List.findIdx_eq hk]
  refine ⟨?_, fun j hj => ?_⟩
  ·
   rw [List.getD_eq_getElem?_getD, List.getElem?_eq_getElem hk] at he
   exact he
  ·
   have := hm j hj
   rw [List.getD_eq_getElem?_getD, List.getElem?_eq_getElem (by omega)] at this
   exact this
 rw [this]
def RdS (w : World) (g : Nat) (L : List ByteArray) : Prop := ∀ j, j < L.length → w.cell? ⟨g, j, none⟩ = some (.string (L.getD j E0))
theorem at_any (L : List ByteArray) (s : ByteArray) (g n cap : Nat) (w : World) (hn : L.length = n) (hm : n ≤ 1000000) (hr : RdS w g L) : Calls Tryz.prog 137 #[.slice (some ⟨g, 0, none⟩) n cap, .string s] w fun e w' => e = .returned (.int .i64 (atV L s)) ∧ w' = w := by
 obtain ⟨v, hv⟩ : ∃ v, atV L s = v := ⟨_, rfl⟩
 have HIT := hide (fun k (hk : k < n) hm he => (atV_hit (L := L) (s := s) (k := k) (by omega) hm he).symm.trans hv)
 have MISS := hide (fun (h : ∀ k, k < n → eqS (L.getD k E0) s = false) => (atV_no (L := L) (s := s) (hasS_miss (fun k hk => h k (by omega)))).symm.trans hv)
 have RD := hide (fun j (hj : j < n) => hr j (by omega))
 rw [hv]
 clear hv hr
 go_enter Tryz.func137, Tryz.ntmps137
 go_wp2
 go_loop [5] (fun i => ∃ k : Nat, i = .int .i64 k ∧ k ≤ n ∧ Hid (∀ j, j < k → eqS (L.getD j E0) s = false)) (fun i => n - (intOf i).toNat)
 case atStart => exact ⟨0, rfl, by omega, fun j hj => by omega⟩
 case round =>
  obtain ⟨k, rfl, hk, hd⟩ := hrel
  by_cases hlt : k < n
  ·
   have hc := uh RD k hlt
   have H1 := hide (uh HIT k hlt hd.out)
   have H2 := hide (show eqS (L.getD k E0) s = false → ∀ j, j < k + 1 → eqS (L.getD j E0) s = false from fun h j hj => by
    by_cases e : j = k
    · subst e; exact h
    · exact hd.out j (by omega))
   generalize L.getD k E0 = T at hc H1 H2
   clear hd
   cases hq : (T.toList == s.toList)
   ·
    have E := hide (uh H2 hq)
    clear H1 H2
    go_wp2
    go_round
    case rel => exact ⟨k + 1, by go_num, by omega, uh E⟩
    case measure => simp [intOf]; omega
   ·
    have E := hide (uh H1 hq)
    clear H1 H2
    go_wp2
    go_ret
    exact ⟨by rw [← uh E]; rfl, rfl⟩
  ·
   have E := hide (uh MISS (fun j hj => hd.out j (by omega)))
   clear hd
   go_wp2
   go_ret
   exact ⟨by rw [← uh E]; rfl, rfl⟩
theorem kept_any (w : World) : Calls Tryz.prog 138 #[] w fun e w' => e = .returned (.slice (some ⟨w.heap.size, 0, none⟩) 31 31) ∧ RdS w' w.heap.size keptL ∧ Below w.heap.size w w' := by
 have HR := hide (show RdS (w.alloc (.cells (keptL.map Value.string).toArray 9)) w.heap.size keptL from fun j hj => by
  rw [World.cell?_alloc_at _ _ _ _ rfl, List.getElem?_toArray, List.getElem?_map]
  rw [List.getElem?_eq_getElem hj, List.getD_eq_getElem?_getD, List.getElem?_eq_getElem hj]
  rfl)
 have HB := hide ((Below.refl w.heap.size w).alloc (Nat.le_refl _) (.cells (keptL.map Value.string).toArray 9))
 go_enter Tryz.func138, Tryz.ntmps138
 go_wp2
 go_ret
 exact ⟨rfl, uh HR, uh HB⟩
def opC : Array Value := (opL.map Value.string).toArray
def rgC : Array Value := (wRg.map Value.string).toArray
def TabK (w : World) : Prop := (∃ t fr, w.heap[0]? = some (.cells opC t fr)) ∧ (∃ t fr, w.heap[3]? = some (.cells rgC t fr))
theorem TabK.later {w w' : World} {B : Nat} (h : TabK w) (hb : Below B w w') (h0 : 0 < B) (h1 : 3 < B) : TabK w' := by
 obtain ⟨⟨t, f, e⟩, ⟨t', f', e'⟩⟩ := h
 exact ⟨⟨t, f, (hb.block _ h0).trans e⟩, ⟨t', f', (hb.block _ h1).trans e'⟩⟩
theorem TabK.lt {w : World} (h : TabK w) : 0 < w.heap.size ∧ 3 < w.heap.size := by
 obtain ⟨⟨t, f, e⟩, ⟨t', f', e'⟩⟩ := h
 exact ⟨(Array.getElem?_eq_some_iff.1 e).1, (Array.getElem?_eq_some_iff.1 e').1⟩
theorem TabK.next {w w' : World} (h : TabK w) (hb : Below w.heap.size w w') : TabK w' := h.later hb h.lt.1 h.lt.2
theorem ixO_0 (w : World) : (Instr.index 137 (.agg opC) (.int .i64 ((0 : Nat) : Int))).run Tryz.prog w = .ok (.string (opL.getD 0 E0)) w := by kernel_rfl
theorem ixO_1 (w : World) : (Instr.index 137 (.agg opC) (.int .i64 ((1 : Nat) : Int))).run Tryz.prog w = .ok (.string (opL.getD 1 E0)) w := by kernel_rfl
theorem ixO_2 (w : World) : (Instr.index 137 (.agg opC) (.int .i64 ((2 : Nat) : Int))).run Tryz.prog w = .ok (.string (opL.getD 2 E0)) w := by kernel_rfl
theorem ixO_3 (w : World) : (Instr.index 137 (.agg opC) (.int .i64 ((3 : Nat) : Int))).run Tryz.prog w = .ok (.string (opL.getD 3 E0)) w := by kernel_rfl
theorem ixO_4 (w : World) : (Instr.index 137 (.agg opC) (.int .i64 ((4 : Nat) : Int))).run Tryz.prog w = .ok (.string (opL.getD 4 E0)) w := by kernel_rfl
theorem ixO_5 (w : World) : (Instr.index 137 (.agg opC) (.int .i64 ((5 : Nat) : Int))).run Tryz.prog w = .ok (.string (opL.getD 5 E0)) w := by kernel_rfl
theorem ixO_6 (w : World) : (Instr.index 137 (.agg opC) (.int .i64 ((6 : Nat) : Int))).run Tryz.prog w = .ok (.string (opL.getD 6 E0)) w := by kernel_rfl
theorem ixO_7 (w : World) : (Instr.index 137 (.agg opC) (.int .i64 ((7 : Nat) : Int))).run Tryz.prog w = .ok (.string (opL.getD 7 E0)) w := by kernel_rfl
theorem ixO_8 (w : World) : (Instr.index 137 (.agg opC) (.int .i64 ((8 : Nat) : Int))).run Tryz.prog w = .ok (.string (opL.getD 8 E0)) w := by kernel_rfl
theorem ixO_9 (w : World) : (Instr.index 137 (.agg opC) (.int .i64 ((9 : Nat) : Int))).run Tryz.prog w = .ok (.string (opL.getD 9 E0)) w := by kernel_rfl
theorem ixO_10 (w : World) : (Instr.index 137 (.agg opC) (.int .i64 ((10 : Nat) : Int))).run Tryz.prog w = .ok (.string (opL.getD 10 E0)) w := by kernel_rfl
theorem ixO_11 (w : World) : (Instr.index 137 (.agg opC) (.int .i64 ((11 : Nat) : Int))).run Tryz.prog w = .ok (.string (opL.getD 11 E0)) w := by kernel_rfl
theorem ixO_12 (w : World) : (Instr.index 137 (.agg opC) (.int .i64 ((12 : Nat) : Int))).run Tryz.prog w = .ok (.string (opL.getD 12 E0)) w := by kernel_rfl
theorem ixO_13 (w : World) : (Instr.index 137 (.agg opC) (.int .i64 ((13 : Nat) : Int))).run Tryz.prog w = .ok (.string (opL.getD 13 E0)) w := by kernel_rfl
theorem ixO_14 (w : World) : (Instr.index 137 (.agg opC) (.int .i64 ((14 : Nat) : Int))).run Tryz.prog w = .ok (.string (opL.getD 14 E0)) w := by kernel_rfl
theorem ixO_15 (w : World) : (Instr.index 137 (.agg opC) (.int .i64 ((15 : Nat) : Int))).run Tryz.prog w = .ok (.string (opL.getD 15 E0)) w := by kernel_rfl
theorem ixO_16 (w : World) : (Instr.index 137 (.agg opC) (.int .i64 ((16 : Nat) : Int))).run Tryz.prog w = .ok (.string (opL.getD 16 E0)) w := by kernel_rfl
theorem ixO_17 (w : World) : (Instr.index 137 (.agg opC) (.int .i64 ((17 : Nat) : Int))).run Tryz.prog w = .ok (.string (opL.getD 17 E0)) w := by kernel_rfl
theorem ixO_18 (w : World) : (Instr.index 137 (.agg opC) (.int .i64 ((18 : Nat) : Int))).run Tryz.prog w = .ok (.string (opL.getD 18 E0)) w := by kernel_rfl
theorem ixO_19 (w : World) : (Instr.index 137 (.agg opC) (.int .i64 ((19 : Nat) : Int))).run Tryz.prog w = .ok (.string (opL.getD 19 E0)) w := by kernel_rfl
theorem ixO_20 (w : World) : (Instr.index 137 (.agg opC) (.int .i64 ((20 : Nat) : Int))).run Tryz.prog w = .ok (.string (opL.getD 20 E0)) w := by kernel_rfl
theorem ixO_21 (w : World) : (Instr.index 137 (.agg opC) (.int .i64 ((21 : Nat) : Int))).run Tryz.prog w = .ok (.string (opL.getD 21 E0)) w := by kernel_rfl
theorem ixO_22 (w : World) : (Instr.index 137 (.agg opC) (.int .i64 ((22 : Nat) : Int))).run Tryz.prog w = .ok (.string (opL.getD 22 E0)) w := by kernel_rfl
theorem ixO_23 (w : World) : (Instr.index 137 (.agg opC) (.int .i64 ((23 : Nat) : Int))).run Tryz.prog w = .ok (.string (opL.getD 23 E0)) w := by kernel_rfl
theorem ixO (k : Nat) (h : k < 24) (w : World) : (Instr.index 137 (.agg opC) (.int .i64 k)).run Tryz.prog w = .ok (.string (opL.getD k E0)) w := by
 have hk : k = 0 ∨ k = 1 ∨ k = 2 ∨ k = 3 ∨ k = 4 ∨ k = 5 ∨ k = 6 ∨ k = 7 ∨ k = 8 ∨ k = 9 ∨ k = 10 ∨ k = 11 ∨ k = 12 ∨ k = 13 ∨ k = 14 ∨ k = 15 ∨ k = 16 ∨ k = 17 ∨ k = 18 ∨ k = 19 ∨ k = 20 ∨ k = 21 ∨ k = 22 ∨ k = 23 := by omega
 rcases hk with rfl | rfl | rfl | rfl | rfl | rfl | rfl | rfl | rfl | rfl | rfl | rfl | rfl | rfl | rfl | rfl | rfl | rfl | rfl | rfl | rfl | rfl | rfl | rfl
 · exact ixO_0 w
 · exact ixO_1 w
 · exact ixO_2 w
 · exact ixO_3 w
 · exact ixO_4 w
 · exact ixO_5 w
 · exact ixO_6 w
 · exact ixO_7 w
 · exact ixO_8 w
 · exact ixO_9 w
 · exact ixO_10 w
 · exact ixO_11 w
 · exact ixO_12 w
 · exact ixO_13 w
 · exact ixO_14 w
 · exact ixO_15 w
 · exact ixO_16 w
 · exact ixO_17 w
 · exact ixO_18 w
 · exact ixO_19 w
 · exact ixO_20 w
 · exact ixO_21 w
 · exact ixO_22 w
 · exact ixO_23 w
theorem ixR_0 (w : World) : (Instr.index 178 (.agg rgC) (.int .i64 ((0 : Nat) : Int))).run Tryz.prog w = .ok (.string (wRg.getD 0 E0)) w := by kernel_rfl
theorem ixR_1 (w : World) : (Instr.index 178 (.agg rgC) (.int .i64 ((1 : Nat) : Int))).run Tryz.prog w = .ok (.string (wRg.getD 1 E0)) w := by kernel_rfl
theorem ixR_2 (w : World) : (Instr.index 178 (.agg rgC) (.int .i64 ((2 : Nat) : Int))).run Tryz.prog w = .ok (.string (wRg.getD 2 E0)) w := by kernel_rfl
theorem ixR_3 (w : World) : (Instr.index 178 (.agg rgC) (.int .i64 ((3 : Nat) : Int))).run Tryz.prog w = .ok (.string (wRg.getD 3 E0)) w := by kernel_rfl
theorem ixR_4 (w : World) : (Instr.index 178 (.agg rgC) (.int .i64 ((4 : Nat) : Int))).run Tryz.prog w = .ok (.string (wRg.getD 4 E0)) w := by kernel_rfl
theorem ixR_5 (w : World) : (Instr.index 178 (.agg rgC) (.int .i64 ((5 : Nat) : Int))).run Tryz.prog w = .ok (.string (wRg.getD 5 E0)) w := by kernel_rfl
theorem ixR_6 (w : World) : (Instr.index 178 (.agg rgC) (.int .i64 ((6 : Nat) : Int))).run Tryz.prog w = .ok (.string (wRg.getD 6 E0)) w := by kernel_rfl
theorem ixR_7 (w : World) : (Instr.index 178 (.agg rgC) (.int .i64 ((7 : Nat) : Int))).run Tryz.prog w = .ok (.string (wRg.getD 7 E0)) w := by kernel_rfl
theorem ixR (k : Nat) (h : k < 8) (w : World) : (Instr.index 178 (.agg rgC) (.int .i64 k)).run Tryz.prog w = .ok (.string (wRg.getD k E0)) w := by
 have hk : k = 0 ∨ k = 1 ∨ k = 2 ∨ k = 3 ∨ k = 4 ∨ k = 5 ∨ k = 6 ∨ k = 7 := by omega
 rcases hk with rfl | rfl | rfl | rfl | rfl | rfl | rfl | rfl
 · exact ixR_0 w
 · exact ixR_1 w
 · exact ixR_2 w
 · exact ixR_3 w
 · exact ixR_4 w
 · exact ixR_5 w
 · exact ixR_6 w
 · exact ixR_7 w
theorem szO : (Tryz.prog.info? 137).map (·.size) = some opC.size := by kernel_rfl
theorem szR : (Tryz.prog.info? 178).map (·.size) = some rgC.size := by kernel_rfl
theorem keptI_any (s : ByteArray) (w : World) (ht : TabK w) : Calls Tryz.prog 128 #[.string s] w fun e w' => e = .returned (.bool (keptB s)) ∧ w' = w := by
 by_cases h0 : s.size = 0
 ·
  obtain rfl := empty_of s h0
  rw [keptB_empty]
  go_enter Tryz.func128, Tryz.ntmps128
  go_wp2
  go_ret
  exact ⟨rfl, rfl⟩
 ·
  have hemp := emp_no s h0
  obtain ⟨⟨t0, f0, R0⟩, ⟨t1, f1, R1⟩⟩ := ht
  obtain ⟨q, hq⟩ : ∃ q, keptB s = q := ⟨_, rfl⟩
  have HO := hide (fun k hk he => (keptB_op (s := s) h0 (k := k) hk he).symm.trans hq)
  have HR := hide (fun k hk he => (keptB_rg (s := s) (k := k) hk he).symm.trans hq)
  have HN := hide (fun h1 h2 => (keptB_no (s := s) h1 h2).symm.trans hq)
  rw [hq]
  have R0' := hide R0
  have R1' := hide R1
  clear hq R0 R1
  go_enter Tryz.func128, Tryz.ntmps128
  go_wp2_with (refine wpList_load_row rfl 137 _ rfl 0 rfl t0 opC f0 _ (uh R0') Tryz.underlying137 rfl szO ?_)
  go_loop [10] (fun i => ∃ k : Nat, i = .int .i64 k ∧ k ≤ 24 ∧ Hid (∀ j, j < k → eqS (opL.getD j E0) s = false)) (fun i => 24 - (intOf i).toNat)
  case atStart => exact ⟨0, rfl, by omega, fun j hj => by omega⟩
  case round =>
   obtain ⟨k, rfl, hk, hd⟩ := hrel
   by_cases hlt : k < 24
   ·
    have IX := hide (ixO k hlt)
    have H1 := hide (uh HO k hlt)
    have H2 := hide (show eqS (opL.getD k E0) s = false → ∀ j, j < k + 1 → eqS (opL.getD j E0) s = false from fun h j hj => by
     by_cases e : j = k
     · subst e; exact h
     · exact hd.out j (by omega))
    generalize opL.getD k E0 = T at IX H1 H2
    clear hd HO HR HN
    cases hq : (T.toList == s.toList)
    ·
     have E := hide (uh H2 hq)
     clear H1 H2
     go_wp2_with (refine wpList_index_at rfl 137 _ _ rfl _ _ _ rfl rfl (uh IX) ?_)
     go_round
     case rel => exact ⟨k + 1, by go_num, by omega, uh E⟩
     case measure => simp [intOf]; omega
    ·
     have E := hide (uh H1 hq)
     clear H1 H2
     go_wp2_with (refine wpList_index_at rfl 137 _ _ rfl _ _ _ rfl rfl (uh IX) ?_)
     go_ret
     exact ⟨by rw [← uh E]; rfl, rfl⟩
   ·
    have HN2 := hide (uh HN (fun j hj => hd.out j (by omega)))
    clear hd HN HO
    go_wp2_with (refine wpList_load_row rfl 178 _ rfl 3 rfl t1 rgC f1 _ (uh R1') Tryz.underlying178 rfl szR ?_)
    go_loop [18] (fun i => ∃ k : Nat, i = .int .i64 k ∧ k ≤ 8 ∧ Hid (∀ j, j < k → eqS (wRg.getD j E0) s = false)) (fun i => 8 - (intOf i).toNat)
    case atStart => exact ⟨0, rfl, by omega, fun j hj => by omega⟩
    case round =>
     clear hlt hk
     obtain ⟨k, rfl, hk, hd⟩ := hrel
     by_cases hlt : k < 8
     ·
      have IX := hide (ixR k hlt)
      have H1 := hide (uh HR k hlt)
      have H2 := hide (show eqS (wRg.getD k E0) s = false → ∀ j, j < k + 1 → eqS (wRg.getD j E0) s = false from fun h j hj => by
       by_cases e : j = k
       · subst e; exact h
       · exact hd.out j (by omega))
      generalize wRg.getD k E0 = T at IX H1 H2
      clear hd HR HN2
      cases hq : (T.toList == s.toList)
      ·
       have E := hide (uh H2 hq)
       clear H1 H2
       go_wp2_with (refine wpList_index_at rfl 178 _ _ rfl _ _ _ rfl rfl (uh IX) ?_)
       go_round
       case rel => exact ⟨k + 1, by go_num, by omega, uh E⟩
       case measure => simp [intOf]; omega
      ·
       have E := hide (uh H1 hq)
       clear H1 H2
       go_wp2_with (refine wpList_index_at rfl 178 _ _ rfl _ _ _ rfl rfl (uh IX) ?_)
       go_ret
       exact ⟨by rw [← uh E]; rfl, rfl⟩
     ·
      have E := hide (uh HN2 (fun j hj => hd.out j (by omega)))
      clear hd HN2 HR
      go_wp2
      go_ret
      exact ⟨by rw [← uh E]; rfl, rfl⟩
def mkL : List UInt8 := [58, 61, 44, 40, 41, 43, 45, 42, 47, 38, 124, 35, 64, 46, 60, 62]
def markB : List UInt8 → Bool
 | [c] => mkL.contains c
 | _ => false
def dotB : List UInt8 → Bool
 | 46 :: t => formB t
 | _ => false
theorem dotB_cons (c : UInt8) (t : List UInt8) : dotB (c :: t) = (c == 46 && formB t) := by
 by_cases h : c = 46
 · subst h; rfl
 ·
  rw [beq_eq_false_iff_ne.2 h, Bool.false_and]
  unfold dotB
  split
  · rename_i e; exact absurd (List.cons.inj e).1 h
  · rfl
structure Tk where
 k : Int
 n : Int
 s : ByteArray
def Tk.cs (t : Tk) : Array Value := #[.int .i64 t.k, .int .i64 t.n, .string t.s]
def Tk.v (t : Tk) : Value := .agg t.cs
def nameB (s : ByteArray) : Bool := formB s.data.toList && !keptB s
def Tk.ok (t : Tk) : Bool :=
 if t.k == 2 then inB t.n 0 65535 && decide (t.s.size = 0)
 else if t.n != 0 then false
 else if t.k == 1 then nameB t.s
 else if t.k == 3 then dotB t.s.data.toList
 else if t.k == 4 then markB t.s.data.toList
 else if t.k == 5 then keptB t.s
 else false
theorem nameI_any (s : ByteArray) (w : World) (hmax : s.size ≤ 1099511627776) (ht : TabK w) : Calls Tryz.prog 131 #[.string s] w fun e w' => e = .returned (.bool (nameB s)) ∧ w' = w := by
 have H1 := hide (formI_any s w hmax)
 have H2 := hide (keptI_any s w ht)
 unfold nameB
 generalize formB s.data.toList = p at *
 generalize keptB s = q at *
 clear ht
 cases p
 ·
  go_enter Tryz.func131, Tryz.ntmps131
  go_wp2_with (first | (go_at_call 133; refine (uh H1).mono ?_; rintro e w' ⟨rfl, rfl⟩) | (go_at_call 128; refine (uh H2).mono ?_; rintro e w' ⟨rfl, rfl⟩))
  go_ret
  exact ⟨rfl, rfl⟩
 ·
  go_enter Tryz.func131, Tryz.ntmps131
  go_wp2_with (first | (go_at_call 133; refine (uh H1).mono ?_; rintro e w' ⟨rfl, rfl⟩) | (go_at_call 128; refine (uh H2).mono ?_; rintro e w' ⟨rfl, rfl⟩))
  go_ret
  exact ⟨rfl, rfl⟩
theorem nameS_any (s : ByteArray) (w : World) (hmax : s.size ≤ 1099511627776) : Calls Tryz.prog 74 #[.string s] w fun e w' => e = .returned (.bool (nameB s)) ∧ Below w.heap.size w w' := by
 have H1 := hide (formS_any s w hmax)
 have HY := hide (fun h => atV_yes (L := keptL) (s := s) h)
 have HN := hide (fun h => atV_no (L := keptL) (s := s) h)
 have HA := hide (fun w1 (hr : RdS w1 w.heap.size keptL) => at_any keptL s w.heap.size 31 31 w1 rfl (by omega) hr)
 have HK := hide (kept_any w)
 unfold nameB keptB
 generalize formB s.data.toList = p at *
 generalize hasS keptL s = q at *
 generalize atV keptL s = v at *
 cases p
 ·
  go_enter Tryz.func74, Tryz.ntmps74
  go_wp2_with (go_at_call 136; refine (uh H1).mono ?_; rintro e w' ⟨rfl, rfl⟩)
  go_ret
  exact ⟨rfl, Below.refl _ _⟩
 ·
  have E := hide (show (decide (v < 0)) = !q by
   cases q
   · rw [uh HN rfl]; rfl
   ·
    have := uh HY rfl
    simp
    omega)
  go_enter Tryz.func74, Tryz.ntmps74
  go_wp2_with (first | (go_at_call 136; refine (uh H1).mono ?_; rintro e w' ⟨rfl, rfl⟩) | (go_at_call 138; refine (uh HK).mono ?_; rintro e w1 ⟨rfl, hr1, hb1⟩) | (go_at_call 137; refine (uh HA _ hr1).mono ?_; rintro e w' ⟨rfl, rfl⟩))
  go_ret
  exact ⟨by rw [← uh E]; rfl, hb1⟩
theorem below_new (w : World) (o : Obj) : Below w.heap.size w (w.alloc o) := (Below.refl _ _).alloc (Nat.le_refl _) _
theorem grownBy_trans {a b c : World} {r : Option Nat} (h : a.grownBy b r) (k : b.grownBy c r) : a.grownBy c r :=
 ⟨k.os.trans h.os, k.tape.trans h.tape, k.output.trans h.output, Nat.le_trans h.size k.size, fun j hj hn => (k.block j (Nat.lt_of_lt_of_le hj h.size) hn).trans (h.block j hj hn)⟩
def Rd (w : World) (a : Option Addr) (xs : List UInt8) : Prop :=
 xs = [] ∨ ∃ b off, a = some ⟨b, off, none⟩ ∧ b < w.heap.size ∧ ∀ i, i < xs.length → w.cell? ⟨b, off + i, none⟩ = some (.int .u8 (bAt xs i))
def cellsB (ys : List UInt8) : List Value := ys.map fun y => .int .u8 (y.toNat : Int)
theorem cellsB_length (ys : List UInt8) : (cellsB ys).length = ys.length := by simp [cellsB]
theorem cellsB_append (a b : List UInt8) : cellsB (a ++ b) = cellsB a ++ cellsB b := by simp [cellsB]
theorem cellsB_get {ys : List UInt8} {j : Nat} {u : Value} (h : (cellsB ys)[j]? = some u) : j < ys.length ∧ u = .int .u8 (bAt ys j) := by
 simp only [cellsB, List.getElem?_map, Option.map_eq_some_iff] at h
 obtain ⟨y, hy, rfl⟩ := h
 have := (List.getElem?_eq_some_iff.1 hy).1
 exact ⟨this, by unfold bAt; rw [List.getD_eq_getElem?_getD, hy]; rfl⟩
def OwnB (w : World) (B : Nat) (v : Value) (ys : List UInt8) : Prop := w.ownsRow B 5 1 v ys.length (cellsB ys)
theorem rd_cells {w : World} {ad : Addr} {xs : List UInt8} (h : Rd w (some ad) xs) : ∀ j u, (cellsB xs)[j]? = some u → w.cell? (ad.add j) = some u := by
 intro j u hu
 obtain ⟨hj, rfl⟩ := cellsB_get hu
 rcases h with rfl | ⟨b, off, ha, hb, hc⟩
 · simp at hj
 ·
  cases ha
  have := hc j hj
  unfold Addr.add
  by_cases h0 : j = 0
  · subst h0; simpa using this
  · simpa [h0] using this
theorem OwnB.rd {w : World} {B : Nat} {v : Value} {ys : List UInt8} (h : OwnB w B v ys) : ∃ a cap, v = .slice a ys.length cap ∧ ys.length ≤ cap ∧ cap ≤ maxLen ∧ Rd w a ys ∧ (∀ ad, a = some ad → B ≤ ad.block) ∧ (a = none → cap = 0) := by
 obtain ⟨_, ⟨rfl, h0⟩ | ⟨g, cap, cur, rfl, hg, hh, hn, hm, hs, ht⟩⟩ := id h
 ·
  obtain rfl : ys = [] := List.eq_nil_of_length_eq_zero h0
  exact ⟨none, 0, rfl, Nat.le_refl _, Nat.zero_le _, .inl rfl, (fun _ h => by cases h), fun _ => rfl⟩
 ·
  refine ⟨_, cap, rfl, hn, hm, .inr ⟨g, 0, rfl, (Array.getElem?_eq_some_iff.1 hh).1, fun i hi => ?_⟩, (fun ad h => by cases h; exact hg), fun h => by cases h⟩
  have h2 := World.ownsRow.cellAt h i (by omega)
  rw [Nat.zero_add, h2]
  simp only [cellsB, List.getElem?_map, List.getElem?_eq_getElem hi, Option.map_some]
  unfold bAt
  rw [List.getD_eq_getElem?_getD, List.getElem?_eq_getElem hi]
  rfl
theorem OwnB.rd1 {w : World} {B : Nat} {a : Option Addr} {n cap : Nat} {ys : List UInt8} (h : OwnB w B (.slice a n cap) ys) : Rd w a ys := by
 obtain ⟨a', cap', e, _, _, hr, _⟩ := h.rd
 cases e
 exact hr
theorem grownBy_set {w : World} {b o : Nat} (v : Value) : w.grownBy (w.setCell ⟨b, o, none⟩ v) (some b) :=
 ⟨rfl, rfl, rfl, by simp, fun k _ hk => Below.heap_setCell w ⟨b, o, none⟩ v k (fun e => hk (by simp [e]))⟩
section
structure Sub (B : Nat) (w0 : World) where
 w : World
 h : Below B w0 w
theorem Sub.ne (B : Nat) (w0 : World) : Nonempty (Sub B w0) := ⟨⟨w0, Below.refl _ _⟩⟩
section
variable {B : Nat} {w0 : World} {P : Program}
theorem Sub.call {f : FuncId} {args : Array Value} {x : Sub B w0} {v : Value} (hB : B ≤ w0.heap.size) (h : Calls P f args x.w fun e w' => e = .returned v ∧ Below x.w.heap.size x.w w') : Calls P f args x.w fun e w' => e = .returned v ∧ ∃ y : Sub B w0, w' = y.w :=
 h.mono fun e w' ⟨he, hb⟩ => ⟨he, ⟨w', x.h.trans (hb.mono (Nat.le_trans hB x.h.size))⟩, rfl⟩
theorem Sub.same {f : FuncId} {args : Array Value} {x : Sub B w0} {v : Value} (h : Calls P f args x.w fun e w' => e = .returned v ∧ w' = x.w) : Calls P f args x.w fun e w' => e = .returned v ∧ ∃ y : Sub B w0, w' = y.w :=
 h.mono fun e w' ⟨he, hb⟩ => ⟨he, x, hb⟩
theorem wp_region_sub {id : Nat} {Q : Exit → Act → World → Prop} {a : Act} (x : Sub B w0) {l : List Oper} (hm : P.follows .mixedOrders = true) (hB : Region.lexB .any l.toArray = true)
  (h : wpQuiet P l.toArray (fun w' => ∃ y : Sub B w0, w' = y.w) (fun a' => ∀ y : Sub B w0, Q .normal a' y.w) l a) : (Code.region id l.toArray true).wp P Q a x.w :=
 wp_region_quiet (C := fun w' => ∃ y : Sub B w0, w' = y.w) hm hB ⟨⟨_, x.h.drew⟩, rfl⟩ (by
  have e : (fun a' => ∀ w', (∃ y : Sub B w0, w' = y.w) → Q .normal a' w') = (fun a' => ∀ y : Sub B w0, Q .normal a' y.w) := by
   funext a'
   apply propext
   constructor
   · intro h y; exact h _ ⟨y, rfl⟩
   · rintro h _ ⟨y, rfl⟩; exact h y
  rw [e]
  simpa using h)
end
end
section
def T0 : Tk := ⟨0, 0, E0⟩
def tAt (ts : List Tk) (i : Nat) : Tk := ts.getD i T0
def RdT (w : World) (a : Option Addr) (ts : List Tk) : Prop :=
 ts = [] ∨ ∃ b off, a = some ⟨b, off, none⟩ ∧ b < w.heap.size ∧ ∀ i, i < ts.length → w.cell? ⟨b, off + i * 3, none⟩ = some (.int .i64 (tAt ts i).k) ∧ w.cell? ⟨b, off + i * 3 + 1, none⟩ = some (.int .i64 (tAt ts i).n) ∧ w.cell? ⟨b, off + i * 3 + 2, none⟩ = some (.string (tAt ts i).s)
def szL : List Tk → Nat
 | [] => 0
 | t :: r => t.s.size + szL r
theorem szL_take (ts : List Tk) (k : Nat) (h : k < ts.length) : szL (ts.take (k + 1)) = szL (ts.take k) + (tAt ts k).s.size := by
 induction ts generalizing k with
 | nil => simp at h
 | cons t r ih =>
  cases k with
  | zero => simp [szL, tAt]
  | succ k =>
   have := ih k (by simpa using h)
   simp only [List.take_succ_cons, szL, this]
   show _ = t.s.size + _ + (tAt r k).s.size
   omega
def cellsT : List Tk → List Value
 | [] => []
 | t :: r => .int .i64 t.k :: .int .i64 t.n :: .string t.s :: cellsT r
theorem cellsT_len (ts : List Tk) : (cellsT ts).length = ts.length * 3 := by
 induction ts with
 | nil => rfl
 | cons t r ih => simp only [cellsT, List.length_cons, ih]; omega
theorem cellsT_app (a b : List Tk) : cellsT (a ++ b) = cellsT a ++ cellsT b := by
 induction a with
 | nil => rfl
 | cons t r ih => simp only [List.cons_append, cellsT, ih]
theorem cellsT_get (ts : List Tk) (i : Nat) (h : i < ts.length) : (cellsT ts)[i * 3]? = some (.int .i64 (tAt ts i).k) ∧ (cellsT ts)[i * 3 + 1]? = some (.int .i64 (tAt ts i).n) ∧ (cellsT ts)[i * 3 + 2]? = some (.string (tAt ts i).s) := by
 induction ts generalizing i with
 | nil => simp at h
 | cons t r ih =>
  cases i with
  | zero => exact ⟨rfl, rfl, rfl⟩
  | succ i =>
   have := ih i (by simpa using h)
   have e : (i + 1) * 3 = i * 3 + 3 := by omega
   rw [e]
   exact this
theorem cellsT_one (ts : List Tk) : ∀ u ∈ cellsT ts, u.oneCell' = true := by
 induction ts with
 | nil => intro u hu; cases hu
 | cons t r ih =>
  intro u hu
  simp only [cellsT, List.mem_cons] at hu
  rcases hu with rfl | rfl | rfl | hu
  · rfl
  · rfl
  · rfl
  · exact ih u hu
def OwnT (w : World) (B : Nat) (v : Value) (ts : List Tk) : Prop := w.ownsRow B 71 3 v ts.length (cellsT ts)
section
variable {w w' : World} {B : Nat} {v : Value} {ts : List Tk}
theorem OwnT.keep (h : OwnT w B v ts) (hs : ∀ g, v.ownBlock = some g → g < w.heap.size → w'.heap[g]? = w.heap[g]?) : OwnT w' B v ts := by
 obtain ⟨h1, h2 | ⟨g, cap, cur, rfl, hg, hh, r⟩⟩ := h
 · exact ⟨h1, .inl h2⟩
 · exact ⟨h1, .inr ⟨g, cap, cur, rfl, hg, (hs g rfl (Array.getElem?_eq_some_iff.1 hh).1).trans hh, r⟩⟩
theorem OwnT.later (h : OwnT w B v ts) (hb : Below w.heap.size w w') : OwnT w' B v ts := h.keep fun g _ hg => hb.block g hg
theorem OwnT.lt (h : OwnT w B v ts) {g : Nat} (hg : v.ownBlock = some g) : B ≤ g ∧ g < w.heap.size := World.ownsRow.lt h g hg
theorem OwnT.base {B' : Nat} (h : OwnT w B v ts) (hB : B' ≤ B) : OwnT w B' v ts := by
 obtain ⟨h1, h2 | ⟨g, cap, cur, e, hg, r⟩⟩ := h
 · exact ⟨h1, .inl h2⟩
 · exact ⟨h1, .inr ⟨g, cap, cur, e, Nat.le_trans hB hg, r⟩⟩
theorem OwnT.form (h : OwnT w B v ts) : (v = .slice none 0 0 ∧ ts = []) ∨ ∃ g cap, v = .slice (some ⟨g, 0, none⟩) ts.length cap ∧ B ≤ g ∧ g < w.heap.size ∧ ts.length ≤ cap ∧ cap ≤ maxLen := by
 obtain ⟨_, ⟨h1, h2⟩ | ⟨g, cap, cur, rfl, hg, hh, hn, hm, r⟩⟩ := h
 · exact .inl ⟨h1, List.eq_nil_of_length_eq_zero h2⟩
 · exact .inr ⟨g, cap, rfl, hg, (Array.getElem?_eq_some_iff.1 hh).1, hn, hm⟩
theorem OwnT.rd (h : OwnT w B v ts) : ∃ a cap, v = .slice a ts.length cap ∧ RdT w a ts := by
 rcases h.form with ⟨rfl, rfl⟩ | ⟨g, cap, rfl, hg, hl, _, _⟩
 · exact ⟨none, 0, rfl, .inl rfl⟩
 ·
  refine ⟨_, cap, rfl, .inr ⟨g, 0, rfl, hl, fun i hi => ?_⟩⟩
  obtain ⟨e0, e1, e2⟩ := cellsT_get ts i hi
  have c0 := World.ownsRow.cellAt h (i * 3) (by omega)
  have c1 := World.ownsRow.cellAt h (i * 3 + 1) (by omega)
  have c2 := World.ownsRow.cellAt h (i * 3 + 2) (by omega)
  simp only [Nat.zero_add]
  exact ⟨c0.trans e0, c1.trans e1, c2.trans e2⟩
end
end
def tokL (t : Tk) : List UInt8 := if t.k = 2 then octD (t.n % 65536).toNat else t.s.data.toList
theorem octD_six (n : Int) : (octD (n % 65536).toNat).length ≤ 6 := octD_len _ 5 (by have := Int.emod_lt_of_pos n (show (0 : Int) < 65536 by omega); omega)
theorem tokL_len (t : Tk) : (tokL t).length ≤ t.s.size + 6 := by
 unfold tokL
 split
 · have := octD_six t.n; omega
 · rw [size_len]; omega
def lineT (ts : List Tk) : Nat → List UInt8
 | 0 => []
 | k + 1 => lineT ts k ++ (if k = 0 then [] else [32]) ++ tokL (tAt ts k)
theorem lineT_len (ts : List Tk) : ∀ k, k ≤ ts.length → (lineT ts k).length ≤ szL (ts.take k) + 7 * k
 | 0, _ => by simp [lineT]
 | k + 1, h => by
  have h1 := lineT_len ts k (by omega)
  have h2 := tokL_len (tAt ts k)
  have h3 := szL_take ts k (by omega)
  have h4 : (if k = 0 then ([] : List UInt8) else [32]).length ≤ 1 := by split <;> simp
  simp only [lineT, List.length_append]
  omega
theorem szL_le (ts : List Tk) (k : Nat) : szL (ts.take k) ≤ szL ts := by
 induction ts generalizing k with
 | nil => simp
 | cons t r ih =>
  cases k with
  | zero => simp [szL]
  | succ k => simp only [List.take_succ_cons, szL]; have := ih k; omega
theorem szL_at (ts : List Tk) (k : Nat) (h : k < ts.length) : (tAt ts k).s.size ≤ szL ts := by
 have h1 := szL_take ts k h
 have h2 := szL_le ts (k + 1)
 omega
def lineOf (ts : List Tk) : List UInt8 := lineT ts ts.length
theorem lineS_any (a : Option Addr) (len cap : Nat) (ts : List Tk) (w : World) (hl : ts.length = len) (hm : len + szL ts ≤ 1048576) (hr : RdT w a ts) : Calls Tryz.prog 59 #[.slice a len cap] w fun e w' => e = .returned (.string (strOf (lineOf ts))) ∧ Below w.heap.size w w' := by
 unfold lineOf
 rw [hl]
 go_enter Tryz.func59, Tryz.ntmps59
 go_wp2
 go_loopw [3, 4] (fun s i wr => ∃ k : Nat, k ≤ len ∧ i = .int .i64 k ∧ s = .string (strOf (lineT ts k)) ∧ Below w.heap.size w wr) (fun _ i _ => len - (intOf i).toNat)
 case atStart => exact ⟨0, Nat.zero_le _, rfl, rfl, Below.refl _ _⟩
 case round =>
  obtain ⟨k, hk, rfl, rfl, hb⟩ := hrel
  by_cases hlt : k < len
  ·
   rcases hr with h0 | ⟨b, off, rfl, hbl, hc⟩
   · rw [h0] at hl; simp at hl; omega
   obtain ⟨c0, c1, c2⟩ := hc k (by omega)
   have d0 : wr.cell? ⟨b, off + k * 3, none⟩ = _ := (hb.cell (p := ⟨b, _, none⟩) hbl).trans c0
   have d1 : wr.cell? ⟨b, off + k * 3 + 1, none⟩ = _ := (hb.cell (p := ⟨b, _, none⟩) hbl).trans c1
   have d2 : wr.cell? ⟨b, off + k * 3 + 2, none⟩ = _ := (hb.cell (p := ⟨b, _, none⟩) hbl).trans c2
   have OC := hide (octS_any (tAt ts k).n wr)
   have hz1 : (strOf (lineT ts k)).size ≤ 16777216 := by
    rw [strOf_size]
    have := lineT_len ts k (by omega)
    have := szL_le ts k
    omega
   have hz2 : (strOf (octD ((tAt ts k).n % 65536).toNat)).size ≤ 6 := by rw [strOf_size]; exact octD_six _
   have hz3 : (tAt ts k).s.size ≤ 1048576 := by have := szL_at ts k (by omega); omega
   have LT := hide (show strOf (lineT ts (k + 1)) = strOf (lineT ts k) ++ (if k = 0 then ⟨#[]⟩ else ⟨#[32]⟩) ++ strOf (tokL (tAt ts k)) by
    show strOf (lineT ts k ++ (if k = 0 then [] else [32]) ++ tokL (tAt ts k)) = _
    rw [← strOf_append, ← strOf_append]
    congr 2
    split <;> rfl)
   have TL := hide (show strOf (tokL (tAt ts k)) = if (tAt ts k).k = 2 then strOf (octD ((tAt ts k).n % 65536).toNat) else (tAt ts k).s by
    unfold tokL
    split
    · rfl
    · rw [strOf_of])
   rw [uh TL] at LT
   clear c0 c1 c2 hc TL
   have HB := hide hb
   generalize strOf (lineT ts k) = S1 at hz1 LT ⊢
   generalize strOf (octD ((tAt ts k).n % 65536).toNat) = S2 at hz2 LT OC
   generalize (tAt ts k).s = ss at d2 LT hz3
   generalize (tAt ts k).k = kk at d0 LT
   generalize (tAt ts k).n = nn at d1 OC
   clear hb
   by_cases hk0 : k = 0
   ·
    have LT0 := hide (show strOf (lineT ts (k + 1)) = S1 ++ (if kk = 2 then S2 else ss) by
     have := uh LT
     rw [if_pos hk0] at this
     rw [this]
     congr 1
     apply ByteArray.ext
     rw [ByteArray.data_append]
     simp)
    have hg0 : decide (0 < k) = false := decide_eq_false (by omega)
    clear hk0
    by_cases hk2 : kk = 2
    ·
     subst hk2
     have LT1 := hide (show strOf (lineT ts (k + 1)) = S1 ++ S2 from uh LT0)
     clear LT LT0
     go_wp2_with (go_at_call 122; refine (uh OC).mono ?_; rintro e w5 ⟨rfl, hb5⟩)
     go_roundw
     case rel => exact ⟨k + 1, by omega, by go_num, by rw [uh LT1], (uh HB).trans (hb5.mono (uh HB).size)⟩
     case measure => simp [intOf]; omega
    ·
     have LT1 := hide (show strOf (lineT ts (k + 1)) = S1 ++ ss from (uh LT0).trans (by rw [if_neg hk2]))
     clear LT LT0 OC
     go_wp2
     go_roundw
     case rel => exact ⟨k + 1, by omega, by go_num, by rw [uh LT1], uh HB⟩
     case measure => simp [intOf]; omega
   ·
    have hg0 : (0 : Int) < (k : Int) := by omega
    have LT0 := hide (show strOf (lineT ts (k + 1)) = S1 ++ ⟨#[32]⟩ ++ (if kk = 2 then S2 else ss) by have := uh LT; rw [if_neg hk0] at this; exact this)
    by_cases hk2 : kk = 2
    ·
     subst hk2
     have LT1 := hide (show strOf (lineT ts (k + 1)) = S1 ++ ⟨#[32]⟩ ++ S2 from uh LT0)
     clear LT LT0
     go_wp2_with (go_at_call 122; refine (uh OC).mono ?_; rintro e w5 ⟨rfl, hb5⟩)
     go_roundw
     case rel => exact ⟨k + 1, by omega, by go_num, by rw [uh LT1], (uh HB).trans (hb5.mono (uh HB).size)⟩
     case measure => simp [intOf]; omega
    ·
     have LT1 := hide (show strOf (lineT ts (k + 1)) = S1 ++ ⟨#[32]⟩ ++ ss from (uh LT0).trans (by rw [if_neg hk2]))
     clear LT LT0 OC
     go_wp2
     go_roundw
     case rel => exact ⟨k + 1, by omega, by go_num, by rw [uh LT1], uh HB⟩
     case measure => simp [intOf]; omega
  ·
   obtain rfl : k = len := by omega
   go_wp2
   go_ret
   exact ⟨rfl, hb⟩
def wordT (x : ByteArray) : Tk := if keptB x = true then ⟨5, 0, x⟩ else ⟨1, 0, x⟩
theorem results_row2 {P : Program} {fn : Func} {p u : Tmp} {ty : TypeId} (h : fn.results = #[.cell p ty, .tmp u]) (tmps : Array Value) (w : World) (g : Nat) (t : TypeId) (cs : Array Value) (fr : Nat × Nat) (d : TypeDesc)
  (hp : tmps.getD p undef = .pointer (some ⟨g, 0, none⟩)) (hg : w.heap[g]? = some (.cells cs t fr))
  (hu : P.underlying ty = some d) (hd : (match d with | .struct _ | .array _ _ => true | _ => false) = true) (hi : (P.info? ty).map (·.size) = some cs.size) :
  (results fn tmps).run P w = .ok (.tuple #[.agg cs, tmps.getD u undef]) w := by
 have hp' : tmps[p]?.getD undef = .pointer (some ⟨g, 0, none⟩) := by simpa using hp
 simp [results, h, hp', asAddr, run_loadVar_row w g t ty cs fr d hg hu hd hi]
theorem szK : (Tryz.prog.info? 71).map (·.size) = some 3 := by kernel_rfl
theorem tk_one (k n : Int) (x : ByteArray) : (#[Value.int .i64 k, .int .i64 n, .string x] : Array Value).all (·.oneCell') = true := by simp [Value.oneCell']
def T0c : Array Value := #[.int .i64 0, .int .i64 0, .string ⟨#[]⟩]
theorem wordT_v (x : ByteArray) : (keptB x = true → wordT x = ⟨5, 0, x⟩) ∧ (keptB x = false → wordT x = ⟨1, 0, x⟩) := by
 unfold wordT
 constructor
 · intro h; rw [h]; rfl
 · intro h; rw [h]; rfl
theorem below_row {w w' : World} {cs : Array Value} (h : Below w.heap.size w w') : Below w.heap.size w (w'.setRow w.heap.size cs) :=
 h.trans ⟨rfl, rfl, rfl, by simp [World.setRow], fun k hk => setRow_other _ _ _ _ (by omega)⟩
theorem form_open {l : List UInt8} (h : formB l = true) : ∃ c r, l = c :: r ∧ smB (c.toNat : Int) = true ∧ (∀ x ∈ l, ldB (x.toNat : Int) = true) ∧ l.length ≤ 6 := by
 unfold formB at h
 rw [Bool.and_eq_true, inB_iff, List.all_eq_true] at h
 obtain ⟨h1, h2, h3⟩ := h
 match l, h2 with
 | c :: r, _ =>
  refine ⟨c, r, rfl, ?_, ?_, by omega⟩
  ·
   have := h1 0 (List.mem_range.2 (by simp))
   unfold okAt at this
   rw [show decide (0 < 0) = false from rfl, Bool.false_and, Bool.or_false] at this
   exact this
  ·
   intro x hx
   obtain ⟨i, hi, rfl⟩ := List.getElem_of_mem hx
   have := h1 i (List.mem_range.2 hi)
   unfold okAt bAt at this
   rw [List.getD_eq_getElem?_getD, List.getElem?_eq_getElem hi] at this
   simp only [Option.getD_some] at this
   unfold ldB
   rw [Bool.or_eq_true] at this ⊢
   rcases this with h | h
   · exact .inl h
   · rw [Bool.and_eq_true] at h; exact .inr h.2
def AllOk (ts : List Tk) : Prop := ∀ t ∈ ts, t.ok = true
theorem kept_small : ∀ x ∈ keptL, x.size ≤ 7 := by decide +kernel
theorem ok_size {t : Tk} (h : t.ok = true) : t.s.size ≤ 7 := by
 obtain ⟨tk, tn, tx⟩ := t
 unfold Tk.ok at h
 simp only at h ⊢
 have hl := size_len tx
 split at h
 · rw [Bool.and_eq_true, decide_eq_true_eq] at h; omega
 ·
  split at h
  · cases h
  ·
   split at h
   ·
    unfold nameB at h
    rw [Bool.and_eq_true] at h
    obtain ⟨_, _, _, _, _, h6⟩ := form_open h.1
    omega
   ·
    split at h
    ·
     match hx : tx.data.toList with
     | [] => rw [hx] at h; cases h
     | c0 :: q =>
      rw [hx, dotB_cons, Bool.and_eq_true] at h
      obtain ⟨_, _, _, _, _, h6⟩ := form_open h.2
      rw [hx, List.length_cons] at hl
      omega
    ·
     split at h
     ·
      match hx : tx.data.toList, h with
      | [c], _ => rw [hx] at hl; simp at hl; omega
     ·
      split at h
      · exact kept_small tx (hasS_iff.1 h)
      · cases h
structure Ex where
 k : Int
 n : Int
 s : ByteArray
 l : List Ex
theorem Ex.ind {p : Ex → Prop} (h : ∀ k n s l, (∀ e ∈ l, p e) → p ⟨k, n, s, l⟩) (e : Ex) : p e := by
 obtain ⟨k, n, s, l⟩ := e
 exact h k n s l (fun e he => Ex.ind h e)
def Ex.sz : Ex → Nat
 | ⟨_, _, s, l⟩ => s.size + l.length + (l.map Ex.sz).sum
theorem Ex.sz_eq (k n : Int) (s : ByteArray) (l : List Ex) : (Ex.mk k n s l).sz = s.size + l.length + (l.map Ex.sz).sum := by rw [Ex.sz]
def X0 : Ex := ⟨0, 0, ⟨#[]⟩, []⟩
def xAt (l : List Ex) (i : Nat) : Ex := l.getD i X0
def RdX (w : World) (B : Nat) : Ex → Option Addr → Prop
 | ⟨_, _, _, l⟩, a => l = [] ∨ ∃ b off, a = some ⟨b, off, none⟩ ∧ B ≤ b ∧ b < w.heap.size ∧ ∀ x ∈ l, ∀ i, l[i]? = some x → w.cell? ⟨b, off + i * 4, none⟩ = some (.int .i64 x.k) ∧ w.cell? ⟨b, off + i * 4 + 1, none⟩ = some (.int .i64 x.n) ∧ w.cell? ⟨b, off + i * 4 + 2, none⟩ = some (.string x.s) ∧ ∃ c cap, w.cell? ⟨b, off + i * 4 + 3, none⟩ = some (.slice c x.l.length cap) ∧ RdX w B x c
def OneX (w : World) (B b at_ : Nat) (x : Ex) : Prop := w.cell? ⟨b, at_, none⟩ = some (.int .i64 x.k) ∧ w.cell? ⟨b, at_ + 1, none⟩ = some (.int .i64 x.n) ∧ w.cell? ⟨b, at_ + 2, none⟩ = some (.string x.s) ∧ ∃ c cap, w.cell? ⟨b, at_ + 3, none⟩ = some (.slice c x.l.length cap) ∧ RdX w B x c
theorem xAt_get {l : List Ex} {i : Nat} (h : i < l.length) : xAt l i = l[i] := by
 unfold xAt
 rw [List.getD_eq_getElem?_getD, List.getElem?_eq_getElem h]
 rfl
theorem xAt_mem {l : List Ex} {i : Nat} (h : i < l.length) : xAt l i ∈ l := by rw [xAt_get h]; exact List.getElem_mem _
theorem RdX_eq (w : World) (B : Nat) (e : Ex) (a : Option Addr) : RdX w B e a ↔ (e.l = [] ∨ ∃ b off, a = some ⟨b, off, none⟩ ∧ B ≤ b ∧ b < w.heap.size ∧ ∀ i, i < e.l.length → OneX w B b (off + i * 4) (xAt e.l i)) := by
 obtain ⟨k, n, s, l⟩ := e
 rw [RdX]
 refine or_congr Iff.rfl (exists_congr fun b => exists_congr fun off => and_congr Iff.rfl (and_congr Iff.rfl (and_congr Iff.rfl ⟨fun h i hi => ?_, fun h x hx i hi => ?_⟩)))
 · exact h _ (xAt_mem hi) i (by rw [xAt_get hi]; exact List.getElem?_eq_getElem hi)
 ·
  obtain ⟨hl, e⟩ := List.getElem?_eq_some_iff.1 hi
  have := h i hl
  rw [xAt_get hl, e] at this
  exact this
theorem RdX.keep {w w' : World} {B : Nat} (hs : w.heap.size ≤ w'.heap.size) (hc : ∀ b o v, B ≤ b → b < w.heap.size → w.cell? ⟨b, o, none⟩ = some v → w'.cell? ⟨b, o, none⟩ = some v) (e : Ex) : ∀ a, RdX w B e a → RdX w' B e a := by
 induction e using Ex.ind with
 | h k n s l ih =>
  intro a h
  rw [RdX_eq] at h ⊢
  rcases h with h | ⟨b, off, ha, h1, h2, h3⟩
  · exact .inl h
  ·
   refine .inr ⟨b, off, ha, h1, Nat.lt_of_lt_of_le h2 hs, fun i hi => ?_⟩
   obtain ⟨c1, c2, c3, c, cap, c4, c5⟩ := h3 i hi
   exact ⟨hc _ _ _ h1 h2 c1, hc _ _ _ h1 h2 c2, hc _ _ _ h1 h2 c3, c, cap, hc _ _ _ h1 h2 c4, ih _ (xAt_mem hi) _ c5⟩
theorem RdX.later {w w' : World} {B : Nat} {e : Ex} {a : Option Addr} (h : RdX w B e a) (hb : Below w.heap.size w w') : RdX w' B e a :=
 RdX.keep hb.size (fun b o v _ hlt hc => (hb.cell (p := ⟨b, o, none⟩) hlt).trans hc) e a h
theorem RdX.lower {w : World} {B C : Nat} (hC : C ≤ B) (e : Ex) : ∀ a, RdX w B e a → RdX w C e a := by
 induction e using Ex.ind with
 | h k n s l ih =>
  intro a h
  rw [RdX_eq] at h ⊢
  rcases h with h | ⟨b, off, ha, h1, h2, h3⟩
  · exact .inl h
  ·
   refine .inr ⟨b, off, ha, Nat.le_trans hC h1, h2, fun i hi => ?_⟩
   obtain ⟨c1, c2, c3, c, cap, c4, c5⟩ := h3 i hi
   exact ⟨c1, c2, c3, c, cap, c4, ih _ (xAt_mem hi) _ c5⟩
def szX (l : List Ex) : Nat := (l.map Ex.sz).sum
theorem szX_take (l : List Ex) (k : Nat) (h : k < l.length) : szX (l.take (k + 1)) = szX (l.take k) + (xAt l k).sz := by
 unfold szX
 rw [List.take_succ_eq_append_getElem h, List.map_append, List.sum_append, xAt_get h]
 simp
theorem szX_le (l : List Ex) (k : Nat) : szX (l.take k) ≤ szX l := by
 induction l generalizing k with
 | nil => simp [szX]
 | cons a r ih =>
  cases k with
  | zero => simp [szX]
  | succ k =>
   have := ih k
   unfold szX at this ⊢
   simp only [List.take_succ_cons, List.map_cons, List.sum_cons]
   omega
theorem sz_is (e : Ex) : e.sz = e.s.size + e.l.length + szX e.l := by obtain ⟨k, n, s, l⟩ := e; exact Ex.sz_eq k n s l
def Fit : Ex → Prop
 | ⟨_, _, s, l⟩ => s.size ≤ 9223372036854775807 ∧ l.length ≤ 9223372036854775807 ∧ ∀ x ∈ l, Fit x
theorem Fit_eq (e : Ex) : Fit e ↔ (e.s.size ≤ 9223372036854775807 ∧ e.l.length ≤ 9223372036854775807 ∧ ∀ i, i < e.l.length → Fit (xAt e.l i)) := by
 obtain ⟨k, n, s, l⟩ := e
 rw [Fit]
 refine and_congr Iff.rfl (and_congr Iff.rfl ⟨fun h i hi => h _ (xAt_mem hi), fun h x hx => ?_⟩)
 obtain ⟨i, hi, rfl⟩ := List.getElem_of_mem hx
 have := h i hi
 rw [xAt_get hi] at this
 exact this
def Ex.here (e : Ex) : Bool :=
 if ((e.k != 1 && (e.k != 11 && e.n != 0)) || (e.k != 2 && (e.k != 12 && !eqS e.s E0))) = true then false
 else if e.k = 1 then inB e.n 0 65535 && e.l.length == 0
 else if e.k = 2 ∨ e.k = 12 then nameB e.s && e.l.length == 0
 else if e.k = 3 then e.l.length == 0
 else if e.k = 4 then e.l.length == 1
 else if 5 ≤ e.k ∧ e.k ≤ 10 then e.l.length == 2
 else if e.k = 11 then inB e.n 0 9 && e.l.length == 0
 else false
def okF : Nat → Bool → Ex → Bool
 | 0, _, _ => false
 | d + 1, p, e => e.here && (!(p && (e.k == 11 || e.k == 12)) && e.l.all (okF d p))
def mkS (c : UInt8) : ByteArray := ⟨#[c]⟩
def mkT (c : UInt8) : Tk := ⟨4, 0, mkS c⟩
def sgnC (k : Int) : UInt8 := if k = 5 then 43 else if k = 6 then 45 else if k = 7 then 42 else if k = 8 then 47 else if k = 9 then 38 else 124
def toksF : Nat → Ex → List Tk
 | 0, _ => []
 | d + 1, e => if e.k = 1 then [⟨2, e.n, E0⟩] else if e.k = 2 then [⟨1, 0, e.s⟩] else if e.k = 3 then [mkT 46]
  else if e.k = 4 then mkT 45 :: toksF d (xAt e.l 0)
  else mkT 60 :: (toksF d (xAt e.l 0) ++ (mkT (sgnC e.k) :: (toksF d (xAt e.l 1) ++ [mkT 62])))
theorem plain_cases {d : Nat} {e : Ex} (h : okF (d + 1) true e = true) : (∃ n : Int, (0 ≤ n ∧ n ≤ 65535) ∧ e = ⟨1, n, E0, []⟩) ∨ (∃ s, nameB s = true ∧ e = ⟨2, 0, s, []⟩) ∨ e = ⟨3, 0, E0, []⟩ ∨ (∃ a, okF d true a = true ∧ e = ⟨4, 0, E0, [a]⟩) ∨ (∃ k a b, (5 ≤ k ∧ k ≤ 10) ∧ okF d true a = true ∧ okF d true b = true ∧ e = ⟨k, 0, E0, [a, b]⟩) := by
 obtain ⟨k, n, s, l⟩ := e
 simp only [okF, Bool.and_eq_true, Bool.true_and, Bool.not_eq_true', Bool.or_eq_false_iff, beq_eq_false_iff_ne] at h
 obtain ⟨h1, ⟨h11, h12⟩, hall⟩ := h
 unfold Ex.here at h1
 simp only at h1
 split at h1
 · cases h1
 ·
  rename_i hg
  have hg : ((k != 1 && (k != 11 && n != 0)) || (k != 2 && (k != 12 && !eqS s E0))) = false := by simpa using hg
  rw [Bool.or_eq_false_iff] at hg
  have hn : k ≠ 1 → n = 0 := fun hk => by have := hg.1; simpa [hk, h11] using this
  have hs : k ≠ 2 → s = E0 := fun hk => by
   have := hg.2
   have h3 : eqS s E0 = true := by simpa [hk, h12] using this
   exact (eqS_iff _ _).1 h3
  split at h1
  ·
   rename_i e; subst e
   rw [Bool.and_eq_true, beq_iff_eq, List.length_eq_zero_iff] at h1
   obtain ⟨hi, rfl⟩ := h1
   exact .inl ⟨n, (inB_iff _ _ _).1 hi, by rw [hs (by decide)]⟩
  ·
   rename_i k1
   split at h1
   ·
    rename_i e
    obtain rfl : k = 2 := by rcases e with e | e; exact e; exact absurd e h12
    rw [Bool.and_eq_true, beq_iff_eq, List.length_eq_zero_iff] at h1
    obtain ⟨hi, rfl⟩ := h1
    exact .inr (.inl ⟨s, hi, by rw [hn (by decide)]⟩)
   ·
    rename_i k2
    have k2 : k ≠ 2 := fun e => k2 (.inl e)
    obtain rfl := hn k1
    obtain rfl := hs k2
    split at h1
    ·
     rename_i e; subst e
     rw [beq_iff_eq, List.length_eq_zero_iff] at h1
     subst h1
     exact .inr (.inr (.inl rfl))
    ·
     split at h1
     ·
      rename_i e; subst e
      rw [beq_iff_eq] at h1
      match l, h1 with
      | [a], _ => exact .inr (.inr (.inr (.inl ⟨a, by simpa using hall, rfl⟩)))
     ·
      split at h1
      ·
       rename_i e
       rw [beq_iff_eq] at h1
       match l, h1 with
       | [a, b], _ =>
        have : okF d true a = true ∧ okF d true b = true := by simpa using hall
        exact .inr (.inr (.inr (.inr ⟨k, a, b, e, this.1, this.2, rfl⟩)))
      · cases h1
theorem plain_num {d : Nat} {n : Int} (h : 0 ≤ n ∧ n ≤ 65535) : okF (d + 1) true ⟨1, n, E0, []⟩ = true := by
 have : inB n 0 65535 = true := (inB_iff _ _ _).2 h
 simp [okF, Ex.here, this, show eqS E0 E0 = true from (eqS_iff _ _).2 rfl]
theorem plain_sym {d : Nat} {s : ByteArray} (h : nameB s = true) : okF (d + 1) true ⟨2, 0, s, []⟩ = true := by
 simp [okF, Ex.here, h]
theorem plain_here (d : Nat) : okF (d + 1) true ⟨3, 0, E0, []⟩ = true := by
 simp [okF, Ex.here, show eqS E0 E0 = true from (eqS_iff _ _).2 rfl]
theorem toks_num (d : Nat) (n : Int) : toksF (d + 1) ⟨1, n, E0, []⟩ = [⟨2, n, E0⟩] := rfl
theorem toks_sym (d : Nat) (s : ByteArray) : toksF (d + 1) ⟨2, 0, s, []⟩ = [⟨1, 0, s⟩] := rfl
theorem toks_here (d : Nat) : toksF (d + 1) ⟨3, 0, E0, []⟩ = [mkT 46] := rfl
theorem toks_neg (d : Nat) (a : Ex) : toksF (d + 1) ⟨4, 0, E0, [a]⟩ = mkT 45 :: toksF d a := rfl
theorem toks_two (d : Nat) {k : Int} (hk : 5 ≤ k ∧ k ≤ 10) (a b : Ex) : toksF (d + 1) ⟨k, 0, E0, [a, b]⟩ = mkT 60 :: (toksF d a ++ (mkT (sgnC k) :: (toksF d b ++ [mkT 62]))) := by
 have : k = 5 ∨ k = 6 ∨ k = 7 ∨ k = 8 ∨ k = 9 ∨ k = 10 := by omega
 rcases this with rfl | rfl | rfl | rfl | rfl | rfl <;> rfl
theorem AllOk.head {t : Tk} {r : List Tk} (h : AllOk (t :: r)) : t.ok = true ∧ AllOk r := ⟨h t List.mem_cons_self, fun x hx => h x (List.mem_cons_of_mem _ hx)⟩
theorem mkT_ok {c : UInt8} (h : mkL.contains c = true) : (mkT c).ok = true := h
theorem sgn_mark {k : Int} (h : 5 ≤ k ∧ k ≤ 10) : mkL.contains (sgnC k) = true := by
 have : k = 5 ∨ k = 6 ∨ k = 7 ∨ k = 8 ∨ k = 9 ∨ k = 10 := by omega
 rcases this with rfl | rfl | rfl | rfl | rfl | rfl <;> decide
theorem allOk_cons {t : Tk} {r : List Tk} (h : t.ok = true) (hr : AllOk r) : AllOk (t :: r) := fun x hx => by
 rcases List.mem_cons.1 hx with rfl | hx
 · exact h
 · exact hr x hx
theorem allOk_app {a b : List Tk} (h : AllOk a) (hr : AllOk b) : AllOk (a ++ b) := fun x hx => by
 rcases List.mem_append.1 hx with hx | hx
 · exact h x hx
 · exact hr x hx
theorem allOk_nil : AllOk [] := fun x hx => by cases hx
def mxT : Nat → Nat
 | 0 => 0
 | d + 1 => 2 * mxT d + 3
theorem toks_ok : ∀ (d : Nat) (e : Ex), okF d true e = true → AllOk (toksF d e) ∧ (toksF d e).length ≤ mxT d := by
 intro d
 induction d with
 | zero => intro e h; cases h
 | succ d ih =>
  intro e h
  rw [mxT]
  rcases plain_cases h with ⟨n, hn, rfl⟩ | ⟨s, hs, rfl⟩ | rfl | ⟨a, ha, rfl⟩ | ⟨k, a, b, hk, ha, hb, rfl⟩
  ·
   rw [toks_num]
   refine ⟨allOk_cons ?_ allOk_nil, by simp⟩
   have : inB n 0 65535 = true := (inB_iff _ _ _).2 hn
   simp [Tk.ok, this, E0, ByteArray.size]
  ·
   rw [toks_sym]
   exact ⟨allOk_cons hs allOk_nil, by simp⟩
  ·
   rw [toks_here]
   exact ⟨allOk_cons (mkT_ok (by decide)) allOk_nil, by simp⟩
  ·
   obtain ⟨q1, q2⟩ := ih a ha
   rw [toks_neg, List.length_cons]
   exact ⟨allOk_cons (mkT_ok (by decide)) q1, by omega⟩
  ·
   obtain ⟨q1, q2⟩ := ih a ha
   obtain ⟨q3, q4⟩ := ih b hb
   rw [toks_two d hk]
   refine ⟨allOk_cons (mkT_ok (by decide)) (allOk_app q1 (allOk_cons (mkT_ok (sgn_mark hk)) (allOk_app q3 (allOk_cons (mkT_ok (by decide)) allOk_nil)))), ?_⟩
   simp only [List.length_cons, List.length_append, List.length_nil]
   omega
set_option linter.unusedSimpArgs false
section
section
variable {w wr w' : World} {cb : Nat} {a : Option Addr} {len cap : Nat} {xs : List UInt8}
theorem grownBy_row {W : World} {g : Nat} (cs : Array Value) : W.grownBy (W.setRow g cs) (some g) := ⟨rfl, rfl, rfl, by simp [World.setRow], fun k _ hk => setRow_other _ _ _ _ (fun e => hk (by rw [e]))⟩
end
end
section
def Ex.cs (e : Ex) (b : Option Addr) (cap : Nat) : Array Value := #[.int .i64 e.k, .int .i64 e.n, .string e.s, .slice b e.l.length cap]
section
variable {H : Type} {enc : TypeId × Value → H} {W : World} {b0 base : Nat} {spare : TypeId → Bool} {held : Bool}
theorem trod_four {P : Program} {t : TypeId} {f0 f1 f2 f3 : Field} {fuel : Nat} {cs : List Value} {x : DataW H × List MemPlace} (ht : P.underlying t = some (.struct #[f0, f1, f2, f3])) (h : DataW.trod enc P W base spare held fuel t cs = some x) :
  ∃ y0 y1 y2 y3 n, fuel = n + 1 ∧ cs.length = P.cellsOf t ∧ DataW.trod enc P W base spare held n f0.type ((cs.drop f0.offset).take (P.cellsOf f0.type)) = some y0 ∧ DataW.trod enc P W base spare held n f1.type ((cs.drop f1.offset).take (P.cellsOf f1.type)) = some y1 ∧ DataW.trod enc P W base spare held n f2.type ((cs.drop f2.offset).take (P.cellsOf f2.type)) = some y2 ∧ DataW.trod enc P W base spare held n f3.type ((cs.drop f3.offset).take (P.cellsOf f3.type)) = some y3 := by
 obtain ⟨xs, n, hf, rfl, hl, hlen, hfs⟩ := DataW.trod_struct ht h
 match xs, hlen with
 | [y0, y1, y2, y3], _ => exact ⟨y0, y1, y2, y3, n, hf, hl, by simpa using hfs 0 f0 rfl, by simpa using hfs 1 f1 rfl, by simpa using hfs 2 f2 rfl, by simpa using hfs 3 f3 rfl⟩
theorem trod_ex : ∀ (fuel : Nat) (cs : List Value) (x : DataW H × List MemPlace), DataW.trod enc Tryz.prog W base spare held fuel 117 cs = some x → ∃ (e : Ex) (b : Option Addr) (cap : Nat), cs = [.int .i64 e.k, .int .i64 e.n, .string e.s, .slice b e.l.length cap] ∧ RdX W 0 e b ∧ Fit e := by
 intro fuel
 induction fuel using Nat.strongRecOn with
 | ind fuel ih =>
  intro cs x h
  obtain ⟨y0, y1, y2, y3, n, hf, hl, h0, h1, h2, h3⟩ := trod_four Tryz.underlying117 h
  have hc : Tryz.prog.cellsOf 117 = 4 := by kernel_rfl
  have hc3 : Tryz.prog.cellsOf 3 = 1 := by kernel_rfl
  have hc9 : Tryz.prog.cellsOf 9 = 1 := by kernel_rfl
  have hcl : Tryz.prog.cellsOf 115 = 1 := by kernel_rfl
  rw [hc] at hl
  match cs, hl with
  | [c0, c1, c2, c3], _ =>
   obtain ⟨m, e0, _, w0⟩ := DataW.trod_int Tryz.underlying3 h0
   obtain ⟨r, e1, _, w1⟩ := DataW.trod_int Tryz.underlying3 h1
   obtain ⟨s, e2, _, w2⟩ := DataW.trod_string Tryz.underlying9 h2
   simp only [hc3, hc9] at e0 e1 e2
   simp at e0 e1 e2
   subst e0 e1 e2
   have hs9 : s.size ≤ 9223372036854775807 := by have := w2; unfold maxLen at this; omega
   rcases DataW.trod_slice Tryz.underlying115 h3 with ⟨hcs, _⟩ | ⟨a, len, cap, elems, rest, q, hq, hcs, _, hb, hl, hm, hel, hx, _, _⟩
   ·
    simp only [hcl] at hcs
    simp at hcs
    subst hcs
    exact ⟨⟨m, r, s, []⟩, none, 0, rfl, (RdX_eq _ _ _ _).2 (.inl rfl), (Fit_eq _).2 ⟨hs9, by simp, fun i hi => by simp at hi⟩⟩
   ·
    simp only [hcl] at hcs
    simp at hcs
    subst hcs
    have each : ∀ i, i < len → ∃ t : Ex, (W.cell? (a.add (i * 4)) = some (.int .i64 t.k) ∧ W.cell? (a.add (i * 4 + 1)) = some (.int .i64 t.n) ∧ W.cell? (a.add (i * 4 + 2)) = some (.string t.s) ∧ ∃ c cap, W.cell? (a.add (i * 4 + 3)) = some (.slice c t.l.length cap) ∧ RdX W 0 t c) ∧ Fit t := fun i hi => by
     have h4 := hx i hi
     rw [List.getElem?_eq_getElem (by omega), Option.bind_eq_some_iff] at h4
     obtain ⟨cs', p1, p2⟩ := h4
     rw [hc] at p1
     obtain ⟨_, hlen', hcell⟩ := World.cells?_some p1
     obtain ⟨t, c, cap', hcs', hrd, hft⟩ := ih q (by omega) cs' _ p2
     refine ⟨t, ⟨?_, ?_, ?_, c, cap', ?_, hrd⟩, hft⟩
     · have e := hcell 0 (by omega); rw [_root_.Go.Deep.add_add, hcs'] at e; simpa using e
     · have e := hcell 1 (by omega); rw [_root_.Go.Deep.add_add, hcs'] at e; simpa using e
     · have e := hcell 2 (by omega); rw [_root_.Go.Deep.add_add, hcs'] at e; simpa using e
     · have e := hcell 3 (by omega); rw [_root_.Go.Deep.add_add, hcs'] at e; simpa using e
    obtain ⟨T, hT⟩ := @_root_.Go.Deep.choose_lt Ex ⟨X0⟩ _ _ each
    have hL : ((List.range len).map T).length = len := by simp
    have hat : ∀ i, i < len → xAt ((List.range len).map T) i = T i := fun i hi => by
     unfold xAt
     rw [List.getD_eq_getElem?_getD, List.getElem?_map, List.getElem?_range hi]
     rfl
    refine ⟨⟨m, r, s, (List.range len).map T⟩, some a, cap, by simp [hL], (RdX_eq _ _ _ _).2 ?_, (Fit_eq _).2 ⟨hs9, ?_, fun i hi => ?_⟩⟩
    ·
     by_cases h0 : len = 0
     · subst h0; exact .inl rfl
     ·
      right
      obtain ⟨b, off, spot⟩ := a
      have h00 := (hT 0 (by omega)).1.1
      have hspot : spot = none := by simpa [Addr.add] using World.cell?_spot h00
      subst hspot
      have hadd : ∀ j, (⟨b, off, none⟩ : Addr).add j = ⟨b, off + j, none⟩ := fun j => by
       unfold Addr.add
       by_cases hj : j = 0
       · subst hj; simp
       · simp [hj]
      refine ⟨b, off, rfl, Nat.zero_le _, World.block_lt_of_cell? W _ h00, fun i hi => ?_⟩
      have hi : i < len := by simpa using hi
      show OneX W 0 b (off + i * 4) (xAt ((List.range len).map T) i)
      rw [hat i hi]
      have h3 := (hT i hi).1
      rw [hadd, hadd, hadd, hadd] at h3
      exact h3
    ·
     show ((List.range len).map T).length ≤ _
     rw [hL]; unfold maxLen at hm; omega
    ·
     have hi : i < len := by simpa using hi
     show Fit (xAt ((List.range len).map T) i)
     rw [hat i hi]
     exact (hT i hi).2
end
end
section
def OwX (w : World) : Ex → Option Addr → List Nat → Prop
 | ⟨_, _, _, l⟩, a, F => (l = [] ∧ F = []) ∨ ∃ (b : Nat) (cs : Array Value) (t : TypeId) (Fs : List (List Nat)), a = some ⟨b, 0, none⟩ ∧ w.heap[b]? = some (.cells cs t (0, 0)) ∧ l.length * 4 ≤ cs.size ∧ Fs.length = l.length ∧ F = b :: Fs.flatten ∧ ∀ x ∈ l, ∀ i, l[i]? = some x → cs[i * 4]? = some (.int .i64 x.k) ∧ cs[i * 4 + 1]? = some (.int .i64 x.n) ∧ cs[i * 4 + 2]? = some (.string x.s) ∧ ∃ c cap, cs[i * 4 + 3]? = some (.slice c x.l.length cap) ∧ OwX w x c (Fs.getD i [])
def OwOne (w : World) (cs : Array Value) (i : Nat) (x : Ex) (F : List Nat) : Prop := cs[i * 4]? = some (.int .i64 x.k) ∧ cs[i * 4 + 1]? = some (.int .i64 x.n) ∧ cs[i * 4 + 2]? = some (.string x.s) ∧ ∃ c cap, cs[i * 4 + 3]? = some (.slice c x.l.length cap) ∧ OwX w x c F
theorem OwX_eq (w : World) (e : Ex) (a : Option Addr) (F : List Nat) : OwX w e a F ↔ ((e.l = [] ∧ F = []) ∨ ∃ (b : Nat) (cs : Array Value) (t : TypeId) (Fs : List (List Nat)), a = some ⟨b, 0, none⟩ ∧ w.heap[b]? = some (.cells cs t (0, 0)) ∧ e.l.length * 4 ≤ cs.size ∧ Fs.length = e.l.length ∧ F = b :: Fs.flatten ∧ ∀ i, i < e.l.length → OwOne w cs i (xAt e.l i) (Fs.getD i [])) := by
 obtain ⟨k, n, s, l⟩ := e
 rw [OwX]
 refine or_congr Iff.rfl (exists_congr fun b => exists_congr fun cs => exists_congr fun t => exists_congr fun Fs => and_congr Iff.rfl (and_congr Iff.rfl (and_congr Iff.rfl (and_congr Iff.rfl (and_congr Iff.rfl ⟨fun h i hi => ?_, fun h x hx i hi => ?_⟩)))))
 · exact h _ (xAt_mem hi) i (by rw [xAt_get hi]; exact List.getElem?_eq_getElem hi)
 ·
  obtain ⟨hl, e⟩ := List.getElem?_eq_some_iff.1 hi
  have := h i hl
  rw [xAt_get hl, e] at this
  exact this
theorem getD_flat {Fs : List (List Nat)} {i : Nat} {b : Nat} (h : b ∈ Fs.getD i []) : b ∈ Fs.flatten := by
 rw [List.getD_eq_getElem?_getD] at h
 by_cases hi : i < Fs.length
 ·
  rw [List.getElem?_eq_getElem hi] at h
  exact List.mem_flatten.2 ⟨_, List.getElem_mem hi, h⟩
 ·
  rw [List.getElem?_eq_none (by omega)] at h
  cases h
theorem OwX.keep {w w' : World} (e : Ex) : ∀ a F, (∀ b ∈ F, w'.heap[b]? = w.heap[b]?) → OwX w e a F → OwX w' e a F := by
 induction e using Ex.ind with
 | h k n s l ih =>
  intro a F hk h
  rw [OwX_eq] at h ⊢
  rcases h with h | ⟨b, cs, t, Fs, ha, hh, hz, hF, rfl, h3⟩
  · exact .inl h
  ·
   refine .inr ⟨b, cs, t, Fs, ha, (hk b List.mem_cons_self).trans hh, hz, hF, rfl, fun i hi => ?_⟩
   obtain ⟨c1, c2, c3, c, cap, c4, c5⟩ := h3 i hi
   exact ⟨c1, c2, c3, c, cap, c4, ih _ (xAt_mem hi) _ _ (fun b hb => hk b (List.mem_cons_of_mem _ (getD_flat hb))) c5⟩
theorem OwX.lt {w : World} (e : Ex) : ∀ a F, OwX w e a F → ∀ b ∈ F, b < w.heap.size := by
 induction e using Ex.ind with
 | h k n s l ih =>
  intro a F h
  rw [OwX_eq] at h
  rcases h with ⟨_, rfl⟩ | ⟨b, cs, t, Fs, ha, hh, hz, hF, rfl, h3⟩
  · intro b hb; cases hb
  ·
   intro x hx
   rcases List.mem_cons.1 hx with rfl | hx
   · exact (Array.getElem?_eq_some_iff.1 hh).1
   ·
    obtain ⟨G, hG, hx⟩ := List.mem_flatten.1 hx
    obtain ⟨i, hi, rfl⟩ := List.getElem_of_mem hG
    have hi2 : i < l.length := hF ▸ hi
    obtain ⟨c1, c2, c3, c, cap, c4, c5⟩ := h3 i hi2
    rw [List.getD_eq_getElem?_getD, List.getElem?_eq_getElem hi] at c5
    exact ih _ (xAt_mem hi2) _ _ c5 _ hx
theorem OwX.later {w w' : World} {e : Ex} {a : Option Addr} {F : List Nat} (h : OwX w e a F) (hb : Below w.heap.size w w') : OwX w' e a F :=
 OwX.keep e a F (fun b hF => hb.block b (OwX.lt e a F h b hF)) h
theorem OwX.rd {w : World} {B : Nat} (e : Ex) : ∀ a F, (∀ b ∈ F, B ≤ b) → OwX w e a F → RdX w B e a := by
 induction e using Ex.ind with
 | h k n s l ih =>
  intro a F hB h
  rw [OwX_eq] at h
  rw [RdX_eq]
  rcases h with h | ⟨b, cs, t, Fs, ha, hh, hz, hF, rfl, h3⟩
  · exact .inl h.1
  ·
   refine .inr ⟨b, 0, ha, hB b List.mem_cons_self, (Array.getElem?_eq_some_iff.1 hh).1, fun i hi => ?_⟩
   obtain ⟨c1, c2, c3, c, cap, c4, c5⟩ := h3 i hi
   unfold OneX
   simp only [Nat.zero_add]
   exact ⟨(Lib.cell_of_heap hh _).trans c1, (Lib.cell_of_heap hh _).trans c2, (Lib.cell_of_heap hh _).trans c3, c, cap, (Lib.cell_of_heap hh _).trans c4, ih _ (xAt_mem hi) _ _ (fun b hb => hB b (List.mem_cons_of_mem _ (getD_flat hb))) c5⟩
def NewX (w : World) (B : Nat) (e : Ex) (a : Option Addr) : Prop := ∃ F, OwX w e a F ∧ F.Nodup ∧ ∀ b ∈ F, B ≤ b
section
variable {w w' : World} {B C : Nat} {e : Ex} {a : Option Addr}
theorem NewX.rd (h : NewX w B e a) : RdX w B e a := by obtain ⟨F, h1, _, h3⟩ := h; exact OwX.rd e a F h3 h1
theorem NewX.later (h : NewX w B e a) (hb : Below w.heap.size w w') : NewX w' B e a := by obtain ⟨F, h1, h2, h3⟩ := h; exact ⟨F, h1.later hb, h2, h3⟩
theorem NewX.lower (h : NewX w B e a) (hC : C ≤ B) : NewX w C e a := by obtain ⟨F, h1, h2, h3⟩ := h; exact ⟨F, h1, h2, fun b hb => Nat.le_trans hC (h3 b hb)⟩
theorem NewX.far (h : NewX w B e a) (p : Addr) (v : Value) (hp : p.block < B) : NewX (w.setCell p v) B e a := by
 obtain ⟨F, h1, h2, h3⟩ := h
 exact ⟨F, OwX.keep e a F (fun b hb => heap_setCell_other w p b v (by have := h3 b hb; omega)) h1, h2, h3⟩
theorem NewX.nil (w : World) (B : Nat) (k n : Int) (s : ByteArray) (a : Option Addr) : NewX w B ⟨k, n, s, []⟩ a := ⟨[], (OwX_eq _ _ _ _).2 (.inl ⟨rfl, rfl⟩), List.nodup_nil, fun b hb => by cases hb⟩
end
end
theorem below_drew {w : World} : Below w.heap.size w w.drew := ⟨rfl, rfl, rfl, Nat.le_refl _, fun _ _ => rfl⟩
theorem row_keep {w w' : World} {g : Nat} {o : Obj} (h : w.heap[g]? = some o) (hb : Below w.heap.size w w') : w'.heap[g]? = some o := (hb.block g (Array.getElem?_eq_some_iff.1 h).1).trans h
theorem yields_loadG {P : Program} {ops : Array Oper} {S : World → Prop} {o : Oper} {a : Act} (hw : Region.wanted o (yielded ops a.tmps) = true) (ty : TypeId) (x : Operand) (ho : o.op = .load ty x) (g : Nat) (hx : a.eval x = .pointer (some ⟨g, 0, none⟩)) (t : TypeId) (cs : Array Value) (d : TypeDesc)
  (hS : ∀ w, S w → w.heap[g]? = some (.cells cs t (0, 0))) (hu : P.underlying ty = some d) (hd : (match d with | .struct _ | .array _ _ => true | _ => false) = true) (hi : (P.info? ty).map (·.size) = some cs.size) : YieldsIf P ops S o (.agg cs) a := by
 refine .inl ⟨hw, fun w hw => ?_⟩
 simp only [execOp, ho, hx, Instr.loadAt, Instr.sureAddr, Sem.run_bind, Sem.run_pure, Result.andThen_ok, run_loadVar_row w g t ty cs (0, 0) d (hS w hw) hu hd hi]
theorem NewX.drawn {wr w' : World} {cb B : Nat} {e : Ex} {c : Option Addr} (h : NewX wr B e c) (hg : wr.grownBy w' (some cb)) (hB : cb < B) : NewX w' B e c := by
 obtain ⟨F, h1, h2, h3⟩ := h
 exact ⟨F, OwX.keep e c F (fun b hF => hg.block b (OwX.lt e c F h1 b hF) (fun e => by have := h3 b hF; simp at e; omega)) h1, h2, h3⟩
theorem NewX.row {wr : World} {B g : Nat} {e : Ex} {c : Option Addr} (h : NewX wr B e c) (cs : Array Value) (hg : g < B) : NewX (wr.setRow g cs) B e c := by
 obtain ⟨F, h1, h2, h3⟩ := h
 exact ⟨F, OwX.keep e c F (fun b hF => setRow_other _ _ _ _ (by have := h3 b hF; omega)) h1, h2, h3⟩
def hereV (k n : Int) (s : ByteArray) (ll : Nat) : Bool := Ex.here ⟨k, n, s, List.replicate ll X0⟩
theorem here_is (e : Ex) : e.here = hereV e.k e.n e.s e.l.length := by
 unfold hereV Ex.here
 simp only [List.length_replicate]
theorem emp_E (s : ByteArray) (h : s ≠ E0) : s.toList.isEmpty = false ∧ eqS s E0 = false := by
 refine ⟨emp_no s (fun e => h (empty_of s e)), ?_⟩
 cases he : eqS s E0 with
 | false => rfl
 | true => exact absurd ((eqS_iff _ _).1 he) h
theorem eqE : eqS E0 E0 = true := (eqS_iff _ _).2 rfl
theorem eqE1 : eqS ⟨#[]⟩ E0 = true := eqE
def HereG (k n : Int) (s : ByteArray) (ll : Nat) : Prop := ∀ (b : Option Addr) (cap : Nat) (w : World), Calls Tryz.prog 184 #[.agg #[.int .i64 k, .int .i64 n, .string s, .slice b ll cap]] w fun r w' => r = .returned (.bool (hereV k n s ll)) ∧ Below w.heap.size w w'
theorem here1_s (n : Int) (s : ByteArray) (ll : Nat) (h : s ≠ E0) (hs : s.size ≤ 1099511627776) (hl : ll ≤ 9223372036854775807) : HereG (1) n s ll := by
 intro b cap w
 have B0 := hide (below_new w (.cells #[.int .i64 1, .int .i64 n, .string s, .slice b ll cap] 26))
 obtain ⟨h1, h2⟩ := emp_E s h
 have V : hereV (1) n s ll = false := by simp [hereV, Ex.here, eqE, eqE1, *]
 rw [V]
 clear V
 go_enter Tryz.func184, Tryz.ntmps184
 go_wp2
 go_ret
 exact ⟨rfl, uh B0⟩
theorem here1_0 (n : Int) (s : ByteArray) (ll : Nat) (hs : s.size ≤ 1099511627776) (hl : ll ≤ 9223372036854775807) : HereG (1) n ⟨#[]⟩ ll := by
 intro b cap w
 have B0 := hide (below_new w (.cells #[.int .i64 1, .int .i64 n, .string ⟨#[]⟩, .slice b ll cap] 26))
 have V : hereV (1) n ⟨#[]⟩ ll = (inB n 0 65535 && ll == 0) := by simp [hereV, Ex.here, eqE, eqE1, *]
 rw [V]
 clear V
 have Q := hide (fun w => in_any n 0 65535 w)
 generalize inB n 0 65535 = q at *
 by_cases h0 : ll = 0
 ·
  subst h0
  cases q <;> (go_enter Tryz.func184, Tryz.ntmps184; go_wp2_with (go_at_call 61; refine (uh Q _).mono ?_; rintro e w' ⟨rfl, hw'⟩; rw [hw']; clear hw' w'); go_ret; exact ⟨rfl, uh B0⟩)
 ·
  have h1 : (ll == 0) = false := beq_eq_false_iff_ne.2 h0
  have h2 : ((ll : Int) == 0) = false := beq_eq_false_iff_ne.2 (by omega)
  rw [h1]
  clear h1 h0
  cases q <;> (go_enter Tryz.func184, Tryz.ntmps184; go_wp2_with (go_at_call 61; refine (uh Q _).mono ?_; rintro e w' ⟨rfl, hw'⟩; rw [hw']; clear hw' w'); go_ret; exact ⟨rfl, uh B0⟩)
theorem here11_s (n : Int) (s : ByteArray) (ll : Nat) (h : s ≠ E0) (hs : s.size ≤ 1099511627776) (hl : ll ≤ 9223372036854775807) : HereG (11) n s ll := by
 intro b cap w
 have B0 := hide (below_new w (.cells #[.int .i64 11, .int .i64 n, .string s, .slice b ll cap] 26))
 obtain ⟨h1, h2⟩ := emp_E s h
 have V : hereV (11) n s ll = false := by simp [hereV, Ex.here, eqE, eqE1, *]
 rw [V]
 clear V
 go_enter Tryz.func184, Tryz.ntmps184
 go_wp2
 go_ret
 exact ⟨rfl, uh B0⟩
theorem here11_0 (n : Int) (s : ByteArray) (ll : Nat) (hs : s.size ≤ 1099511627776) (hl : ll ≤ 9223372036854775807) : HereG (11) n ⟨#[]⟩ ll := by
 intro b cap w
 have B0 := hide (below_new w (.cells #[.int .i64 11, .int .i64 n, .string ⟨#[]⟩, .slice b ll cap] 26))
 have V : hereV (11) n ⟨#[]⟩ ll = (inB n 0 9 && ll == 0) := by simp [hereV, Ex.here, eqE, eqE1, *]
 rw [V]
 clear V
 have Q := hide (fun w => in_any n 0 9 w)
 generalize inB n 0 9 = q at *
 by_cases h0 : ll = 0
 ·
  subst h0
  cases q <;> (go_enter Tryz.func184, Tryz.ntmps184; go_wp2_with (go_at_call 61; refine (uh Q _).mono ?_; rintro e w' ⟨rfl, hw'⟩; rw [hw']; clear hw' w'); go_ret; exact ⟨rfl, uh B0⟩)
 ·
  have h1 : (ll == 0) = false := beq_eq_false_iff_ne.2 h0
  have h2 : ((ll : Int) == 0) = false := beq_eq_false_iff_ne.2 (by omega)
  rw [h1]
  clear h1 h0
  cases q <;> (go_enter Tryz.func184, Tryz.ntmps184; go_wp2_with (go_at_call 61; refine (uh Q _).mono ?_; rintro e w' ⟨rfl, hw'⟩; rw [hw']; clear hw' w'); go_ret; exact ⟨rfl, uh B0⟩)
theorem here2_n (n : Int) (s : ByteArray) (ll : Nat) (h : n ≠ 0) (hs : s.size ≤ 1099511627776) (hl : ll ≤ 9223372036854775807) : HereG (2) n s ll := by
 intro b cap w
 have B0 := hide (below_new w (.cells #[.int .i64 2, .int .i64 n, .string s, .slice b ll cap] 26))
 have V : hereV (2) n s ll = false := by simp [hereV, Ex.here, eqE, eqE1, *]
 rw [V]
 clear V
 go_enter Tryz.func184, Tryz.ntmps184
 go_wp2
 go_ret
 exact ⟨rfl, uh B0⟩
theorem here2_0 (n : Int) (s : ByteArray) (ll : Nat) (hs : s.size ≤ 1099511627776) (hl : ll ≤ 9223372036854775807) : HereG (2) 0 s ll := by
 intro b cap w
 have B0 := hide (below_new w (.cells #[.int .i64 2, .int .i64 0, .string s, .slice b ll cap] 26))
 have V : hereV (2) 0 s ll = (nameB s && ll == 0) := by simp [hereV, Ex.here, eqE, eqE1, *]
 rw [V]
 clear V
 have Q := hide (nameS_any s (w.alloc (.cells #[.int .i64 2, .int .i64 0, .string s, .slice b ll cap] 26)) hs)
 generalize nameB s = q at *
 by_cases h0 : ll = 0
 ·
  subst h0
  cases q <;> (go_enter Tryz.func184, Tryz.ntmps184; go_wp2_with (go_at_call 74; refine (uh Q).mono ?_; rintro e w' ⟨rfl, hb⟩); go_ret; exact ⟨rfl, (uh B0).trans (hb.mono (uh B0).size)⟩)
 ·
  have h1 : (ll == 0) = false := beq_eq_false_iff_ne.2 h0
  have h2 : ((ll : Int) == 0) = false := beq_eq_false_iff_ne.2 (by omega)
  rw [h1]
  clear h1 h0
  cases q <;> (go_enter Tryz.func184, Tryz.ntmps184; go_wp2_with (go_at_call 74; refine (uh Q).mono ?_; rintro e w' ⟨rfl, hb⟩); go_ret; exact ⟨rfl, (uh B0).trans (hb.mono (uh B0).size)⟩)
theorem here12_n (n : Int) (s : ByteArray) (ll : Nat) (h : n ≠ 0) (hs : s.size ≤ 1099511627776) (hl : ll ≤ 9223372036854775807) : HereG (12) n s ll := by
 intro b cap w
 have B0 := hide (below_new w (.cells #[.int .i64 12, .int .i64 n, .string s, .slice b ll cap] 26))
 have V : hereV (12) n s ll = false := by simp [hereV, Ex.here, eqE, eqE1, *]
 rw [V]
 clear V
 go_enter Tryz.func184, Tryz.ntmps184
 go_wp2
 go_ret
 exact ⟨rfl, uh B0⟩
theorem here12_0 (n : Int) (s : ByteArray) (ll : Nat) (hs : s.size ≤ 1099511627776) (hl : ll ≤ 9223372036854775807) : HereG (12) 0 s ll := by
 intro b cap w
 have B0 := hide (below_new w (.cells #[.int .i64 12, .int .i64 0, .string s, .slice b ll cap] 26))
 have V : hereV (12) 0 s ll = (nameB s && ll == 0) := by simp [hereV, Ex.here, eqE, eqE1, *]
 rw [V]
 clear V
 have Q := hide (nameS_any s (w.alloc (.cells #[.int .i64 12, .int .i64 0, .string s, .slice b ll cap] 26)) hs)
 generalize nameB s = q at *
 by_cases h0 : ll = 0
 ·
  subst h0
  cases q <;> (go_enter Tryz.func184, Tryz.ntmps184; go_wp2_with (go_at_call 74; refine (uh Q).mono ?_; rintro e w' ⟨rfl, hb⟩); go_ret; exact ⟨rfl, (uh B0).trans (hb.mono (uh B0).size)⟩)
 ·
  have h1 : (ll == 0) = false := beq_eq_false_iff_ne.2 h0
  have h2 : ((ll : Int) == 0) = false := beq_eq_false_iff_ne.2 (by omega)
  rw [h1]
  clear h1 h0
  cases q <;> (go_enter Tryz.func184, Tryz.ntmps184; go_wp2_with (go_at_call 74; refine (uh Q).mono ?_; rintro e w' ⟨rfl, hb⟩); go_ret; exact ⟨rfl, (uh B0).trans (hb.mono (uh B0).size)⟩)
theorem here3_n (n : Int) (s : ByteArray) (ll : Nat) (h : n ≠ 0) (hs : s.size ≤ 1099511627776) (hl : ll ≤ 9223372036854775807) : HereG (3) n s ll := by
 intro b cap w
 have B0 := hide (below_new w (.cells #[.int .i64 3, .int .i64 n, .string s, .slice b ll cap] 26))
 have V : hereV (3) n s ll = false := by simp [hereV, Ex.here, eqE, eqE1, *]
 rw [V]
 clear V
 go_enter Tryz.func184, Tryz.ntmps184
 go_wp2
 go_ret
 exact ⟨rfl, uh B0⟩
theorem here3_s (n : Int) (s : ByteArray) (ll : Nat) (h : s ≠ E0) (hs : s.size ≤ 1099511627776) (hl : ll ≤ 9223372036854775807) : HereG (3) 0 s ll := by
 intro b cap w
 have B0 := hide (below_new w (.cells #[.int .i64 3, .int .i64 0, .string s, .slice b ll cap] 26))
 obtain ⟨h1, h2⟩ := emp_E s h
 have V : hereV (3) 0 s ll = false := by simp [hereV, Ex.here, eqE, eqE1, *]
 rw [V]
 clear V
 go_enter Tryz.func184, Tryz.ntmps184
 go_wp2
 go_ret
 exact ⟨rfl, uh B0⟩
theorem here3_0 (n : Int) (s : ByteArray) (ll : Nat) (hs : s.size ≤ 1099511627776) (hl : ll ≤ 9223372036854775807) : HereG (3) 0 ⟨#[]⟩ ll := by
 intro b cap w
 have B0 := hide (below_new w (.cells #[.int .i64 3, .int .i64 0, .string ⟨#[]⟩, .slice b ll cap] 26))
 have V : hereV (3) 0 ⟨#[]⟩ ll = (ll == 0) := by simp [hereV, Ex.here, eqE, eqE1, *]
 rw [V]
 clear V
 by_cases h0 : ll = 0
 ·
  subst h0
  go_enter Tryz.func184, Tryz.ntmps184
  go_wp2
  go_ret
  exact ⟨rfl, uh B0⟩
 ·
  have h1 : (ll == 0) = false := beq_eq_false_iff_ne.2 h0
  have h2 : ((ll : Int) == 0) = false := beq_eq_false_iff_ne.2 (by omega)
  rw [h1]
  clear h1 h0
  go_enter Tryz.func184, Tryz.ntmps184
  go_wp2
  go_ret
  exact ⟨rfl, uh B0⟩
theorem here4_n (n : Int) (s : ByteArray) (ll : Nat) (h : n ≠ 0) (hs : s.size ≤ 1099511627776) (hl : ll ≤ 9223372036854775807) : HereG (4) n s ll := by
 intro b cap w
 have B0 := hide (below_new w (.cells #[.int .i64 4, .int .i64 n, .string s, .slice b ll cap] 26))
 have V : hereV (4) n s ll = false := by simp [hereV, Ex.here, eqE, eqE1, *]
 rw [V]
 clear V
 go_enter Tryz.func184, Tryz.ntmps184
 go_wp2
 go_ret
 exact ⟨rfl, uh B0⟩
theorem here4_s (n : Int) (s : ByteArray) (ll : Nat) (h : s ≠ E0) (hs : s.size ≤ 1099511627776) (hl : ll ≤ 9223372036854775807) : HereG (4) 0 s ll := by
 intro b cap w
 have B0 := hide (below_new w (.cells #[.int .i64 4, .int .i64 0, .string s, .slice b ll cap] 26))
 obtain ⟨h1, h2⟩ := emp_E s h
 have V : hereV (4) 0 s ll = false := by simp [hereV, Ex.here, eqE, eqE1, *]
 rw [V]
 clear V
 go_enter Tryz.func184, Tryz.ntmps184
 go_wp2
 go_ret
 exact ⟨rfl, uh B0⟩
theorem here4_0 (n : Int) (s : ByteArray) (ll : Nat) (hs : s.size ≤ 1099511627776) (hl : ll ≤ 9223372036854775807) : HereG (4) 0 ⟨#[]⟩ ll := by
 intro b cap w
 have B0 := hide (below_new w (.cells #[.int .i64 4, .int .i64 0, .string ⟨#[]⟩, .slice b ll cap] 26))
 have V : hereV (4) 0 ⟨#[]⟩ ll = (ll == 1) := by simp [hereV, Ex.here, eqE, eqE1, *]
 rw [V]
 clear V
 by_cases h0 : ll = 1
 ·
  subst h0
  go_enter Tryz.func184, Tryz.ntmps184
  go_wp2
  go_ret
  exact ⟨rfl, uh B0⟩
 ·
  have h1 : (ll == 1) = false := beq_eq_false_iff_ne.2 h0
  have h2 : ((ll : Int) == 1) = false := beq_eq_false_iff_ne.2 (by omega)
  rw [h1]
  clear h1 h0
  go_enter Tryz.func184, Tryz.ntmps184
  go_wp2
  go_ret
  exact ⟨rfl, uh B0⟩
theorem here5_n (n : Int) (s : ByteArray) (ll : Nat) (h : n ≠ 0) (hs : s.size ≤ 1099511627776) (hl : ll ≤ 9223372036854775807) : HereG (5) n s ll := by
 intro b cap w
 have B0 := hide (below_new w (.cells #[.int .i64 5, .int .i64 n, .string s, .slice b ll cap] 26))
 have V : hereV (5) n s ll = false := by simp [hereV, Ex.here, eqE, eqE1, *]
 rw [V]
 clear V
 go_enter Tryz.func184, Tryz.ntmps184
 go_wp2
 go_ret
 exact ⟨rfl, uh B0⟩
theorem here5_s (n : Int) (s : ByteArray) (ll : Nat) (h : s ≠ E0) (hs : s.size ≤ 1099511627776) (hl : ll ≤ 9223372036854775807) : HereG (5) 0 s ll := by
 intro b cap w
 have B0 := hide (below_new w (.cells #[.int .i64 5, .int .i64 0, .string s, .slice b ll cap] 26))
 obtain ⟨h1, h2⟩ := emp_E s h
 have V : hereV (5) 0 s ll = false := by simp [hereV, Ex.here, eqE, eqE1, *]
 rw [V]
 clear V
 go_enter Tryz.func184, Tryz.ntmps184
 go_wp2
 go_ret
 exact ⟨rfl, uh B0⟩
theorem here5_0 (n : Int) (s : ByteArray) (ll : Nat) (hs : s.size ≤ 1099511627776) (hl : ll ≤ 9223372036854775807) : HereG (5) 0 ⟨#[]⟩ ll := by
 intro b cap w
 have B0 := hide (below_new w (.cells #[.int .i64 5, .int .i64 0, .string ⟨#[]⟩, .slice b ll cap] 26))
 have V : hereV (5) 0 ⟨#[]⟩ ll = (ll == 2) := by simp [hereV, Ex.here, eqE, eqE1, *]
 rw [V]
 clear V
 by_cases h0 : ll = 2
 ·
  subst h0
  go_enter Tryz.func184, Tryz.ntmps184
  go_wp2
  go_ret
  exact ⟨rfl, uh B0⟩
 ·
  have h1 : (ll == 2) = false := beq_eq_false_iff_ne.2 h0
  have h2 : ((ll : Int) == 2) = false := beq_eq_false_iff_ne.2 (by omega)
  rw [h1]
  clear h1 h0
  go_enter Tryz.func184, Tryz.ntmps184
  go_wp2
  go_ret
  exact ⟨rfl, uh B0⟩
theorem here6_n (n : Int) (s : ByteArray) (ll : Nat) (h : n ≠ 0) (hs : s.size ≤ 1099511627776) (hl : ll ≤ 9223372036854775807) : HereG (6) n s ll := by
 intro b cap w
 have B0 := hide (below_new w (.cells #[.int .i64 6, .int .i64 n, .string s, .slice b ll cap] 26))
 have V : hereV (6) n s ll = false := by simp [hereV, Ex.here, eqE, eqE1, *]
 rw [V]
 clear V
 go_enter Tryz.func184, Tryz.ntmps184
 go_wp2
 go_ret
 exact ⟨rfl, uh B0⟩
theorem here6_s (n : Int) (s : ByteArray) (ll : Nat) (h : s ≠ E0) (hs : s.size ≤ 1099511627776) (hl : ll ≤ 9223372036854775807) : HereG (6) 0 s ll := by
 intro b cap w
 have B0 := hide (below_new w (.cells #[.int .i64 6, .int .i64 0, .string s, .slice b ll cap] 26))
 obtain ⟨h1, h2⟩ := emp_E s h
 have V : hereV (6) 0 s ll = false := by simp [hereV, Ex.here, eqE, eqE1, *]
 rw [V]
 clear V
 go_enter Tryz.func184, Tryz.ntmps184
 go_wp2
 go_ret
 exact ⟨rfl, uh B0⟩
theorem here6_0 (n : Int) (s : ByteArray) (ll : Nat) (hs : s.size ≤ 1099511627776) (hl : ll ≤ 9223372036854775807) : HereG (6) 0 ⟨#[]⟩ ll := by
 intro b cap w
 have B0 := hide (below_new w (.cells #[.int .i64 6, .int .i64 0, .string ⟨#[]⟩, .slice b ll cap] 26))
 have V : hereV (6) 0 ⟨#[]⟩ ll = (ll == 2) := by simp [hereV, Ex.here, eqE, eqE1, *]
 rw [V]
 clear V
 by_cases h0 : ll = 2
 ·
  subst h0
  go_enter Tryz.func184, Tryz.ntmps184
  go_wp2
  go_ret
  exact ⟨rfl, uh B0⟩
 ·
  have h1 : (ll == 2) = false := beq_eq_false_iff_ne.2 h0
  have h2 : ((ll : Int) == 2) = false := beq_eq_false_iff_ne.2 (by omega)
  rw [h1]
  clear h1 h0
  go_enter Tryz.func184, Tryz.ntmps184
  go_wp2
  go_ret
  exact ⟨rfl, uh B0⟩
theorem here7_n (n : Int) (s : ByteArray) (ll : Nat) (h : n ≠ 0) (hs : s.size ≤ 1099511627776) (hl : ll ≤ 9223372036854775807) : HereG (7) n s ll := by
 intro b cap w
 have B0 := hide (below_new w (.cells #[.int .i64 7, .int .i64 n, .string s, .slice b ll cap] 26))
 have V : hereV (7) n s ll = false := by simp [hereV, Ex.here, eqE, eqE1, *]
 rw [V]
 clear V
 go_enter Tryz.func184, Tryz.ntmps184
 go_wp2
 go_ret
 exact ⟨rfl, uh B0⟩
theorem here7_s (n : Int) (s : ByteArray) (ll : Nat) (h : s ≠ E0) (hs : s.size ≤ 1099511627776) (hl : ll ≤ 9223372036854775807) : HereG (7) 0 s ll := by
 intro b cap w
 have B0 := hide (below_new w (.cells #[.int .i64 7, .int .i64 0, .string s, .slice b ll cap] 26))
 obtain ⟨h1, h2⟩ := emp_E s h
 have V : hereV (7) 0 s ll = false := by simp [hereV, Ex.here, eqE, eqE1, *]
 rw [V]
 clear V
 go_enter Tryz.func184, Tryz.ntmps184
 go_wp2
 go_ret
 exact ⟨rfl, uh B0⟩
theorem here7_0 (n : Int) (s : ByteArray) (ll : Nat) (hs : s.size ≤ 1099511627776) (hl : ll ≤ 9223372036854775807) : HereG (7) 0 ⟨#[]⟩ ll := by
 intro b cap w
 have B0 := hide (below_new w (.cells #[.int .i64 7, .int .i64 0, .string ⟨#[]⟩, .slice b ll cap] 26))
 have V : hereV (7) 0 ⟨#[]⟩ ll = (ll == 2) := by simp [hereV, Ex.here, eqE, eqE1, *]
 rw [V]
 clear V
 by_cases h0 : ll = 2
 ·
  subst h0
  go_enter Tryz.func184, Tryz.ntmps184
  go_wp2
  go_ret
  exact ⟨rfl, uh B0⟩
 ·
  have h1 : (ll == 2) = false := beq_eq_false_iff_ne.2 h0
  have h2 : ((ll : Int) == 2) = false := beq_eq_false_iff_ne.2 (by omega)
  rw [h1]
  clear h1 h0
  go_enter Tryz.func184, Tryz.ntmps184
  go_wp2
  go_ret
  exact ⟨rfl, uh B0⟩
theorem here8_n (n : Int) (s : ByteArray) (ll : Nat) (h : n ≠ 0) (hs : s.size ≤ 1099511627776) (hl : ll ≤ 9223372036854775807) : HereG (8) n s ll := by
 intro b cap w
 have B0 := hide (below_new w (.cells #[.int .i64 8, .int .i64 n, .string s, .slice b ll cap] 26))
 have V : hereV (8) n s ll = false := by simp [hereV, Ex.here, eqE, eqE1, *]
 rw [V]
 clear V
 go_enter Tryz.func184, Tryz.ntmps184
 go_wp2
 go_ret
 exact ⟨rfl, uh B0⟩
theorem here8_s (n : Int) (s : ByteArray) (ll : Nat) (h : s ≠ E0) (hs : s.size ≤ 1099511627776) (hl : ll ≤ 9223372036854775807) : HereG (8) 0 s ll := by
 intro b cap w
 have B0 := hide (below_new w (.cells #[.int .i64 8, .int .i64 0, .string s, .slice b ll cap] 26))
 obtain ⟨h1, h2⟩ := emp_E s h
 have V : hereV (8) 0 s ll = false := by simp [hereV, Ex.here, eqE, eqE1, *]
 rw [V]
 clear V
 go_enter Tryz.func184, Tryz.ntmps184
 go_wp2
 go_ret
 exact ⟨rfl, uh B0⟩
theorem here8_0 (n : Int) (s : ByteArray) (ll : Nat) (hs : s.size ≤ 1099511627776) (hl : ll ≤ 9223372036854775807) : HereG (8) 0 ⟨#[]⟩ ll := by
 intro b cap w
 have B0 := hide (below_new w (.cells #[.int .i64 8, .int .i64 0, .string ⟨#[]⟩, .slice b ll cap] 26))
 have V : hereV (8) 0 ⟨#[]⟩ ll = (ll == 2) := by simp [hereV, Ex.here, eqE, eqE1, *]
 rw [V]
 clear V
 by_cases h0 : ll = 2
 ·
  subst h0
  go_enter Tryz.func184, Tryz.ntmps184
  go_wp2
  go_ret
  exact ⟨rfl, uh B0⟩
 ·
  have h1 : (ll == 2) = false := beq_eq_false_iff_ne.2 h0
  have h2 : ((ll : Int) == 2) = false := beq_eq_false_iff_ne.2 (by omega)
  rw [h1]
  clear h1 h0
  go_enter Tryz.func184, Tryz.ntmps184
  go_wp2
  go_ret
  exact ⟨rfl, uh B0⟩
theorem here9_n (n : Int) (s : ByteArray) (ll : Nat) (h : n ≠ 0) (hs : s.size ≤ 1099511627776) (hl : ll ≤ 9223372036854775807) : HereG (9) n s ll := by
 intro b cap w
 have B0 := hide (below_new w (.cells #[.int .i64 9, .int .i64 n, .string s, .slice b ll cap] 26))
 have V : hereV (9) n s ll = false := by simp [hereV, Ex.here, eqE, eqE1, *]
 rw [V]
 clear V
 go_enter Tryz.func184, Tryz.ntmps184
 go_wp2
 go_ret
 exact ⟨rfl, uh B0⟩
theorem here9_s (n : Int) (s : ByteArray) (ll : Nat) (h : s ≠ E0) (hs : s.size ≤ 1099511627776) (hl : ll ≤ 9223372036854775807) : HereG (9) 0 s ll := by
 intro b cap w
 have B0 := hide (below_new w (.cells #[.int .i64 9, .int .i64 0, .string s, .slice b ll cap] 26))
 obtain ⟨h1, h2⟩ := emp_E s h
 have V : hereV (9) 0 s ll = false := by simp [hereV, Ex.here, eqE, eqE1, *]
 rw [V]
 clear V
 go_enter Tryz.func184, Tryz.ntmps184
 go_wp2
 go_ret
 exact ⟨rfl, uh B0⟩
theorem here9_0 (n : Int) (s : ByteArray) (ll : Nat) (hs : s.size ≤ 1099511627776) (hl : ll ≤ 9223372036854775807) : HereG (9) 0 ⟨#[]⟩ ll := by
 intro b cap w
 have B0 := hide (below_new w (.cells #[.int .i64 9, .int .i64 0, .string ⟨#[]⟩, .slice b ll cap] 26))
 have V : hereV (9) 0 ⟨#[]⟩ ll = (ll == 2) := by simp [hereV, Ex.here, eqE, eqE1, *]
 rw [V]
 clear V
 by_cases h0 : ll = 2
 ·
  subst h0
  go_enter Tryz.func184, Tryz.ntmps184
  go_wp2
  go_ret
  exact ⟨rfl, uh B0⟩
 ·
  have h1 : (ll == 2) = false := beq_eq_false_iff_ne.2 h0
  have h2 : ((ll : Int) == 2) = false := beq_eq_false_iff_ne.2 (by omega)
  rw [h1]
  clear h1 h0
  go_enter Tryz.func184, Tryz.ntmps184
  go_wp2
  go_ret
  exact ⟨rfl, uh B0⟩
theorem here10_n (n : Int) (s : ByteArray) (ll : Nat) (h : n ≠ 0) (hs : s.size ≤ 1099511627776) (hl : ll ≤ 9223372036854775807) : HereG (10) n s ll := by
 intro b cap w
 have B0 := hide (below_new w (.cells #[.int .i64 10, .int .i64 n, .string s, .slice b ll cap] 26))
 have V : hereV (10) n s ll = false := by simp [hereV, Ex.here, eqE, eqE1, *]
 rw [V]
 clear V
 go_enter Tryz.func184, Tryz.ntmps184
 go_wp2
 go_ret
 exact ⟨rfl, uh B0⟩
theorem here10_s (n : Int) (s : ByteArray) (ll : Nat) (h : s ≠ E0) (hs : s.size ≤ 1099511627776) (hl : ll ≤ 9223372036854775807) : HereG (10) 0 s ll := by
 intro b cap w
 have B0 := hide (below_new w (.cells #[.int .i64 10, .int .i64 0, .string s, .slice b ll cap] 26))
 obtain ⟨h1, h2⟩ := emp_E s h
 have V : hereV (10) 0 s ll = false := by simp [hereV, Ex.here, eqE, eqE1, *]
 rw [V]
 clear V
 go_enter Tryz.func184, Tryz.ntmps184
 go_wp2
 go_ret
 exact ⟨rfl, uh B0⟩
theorem here10_0 (n : Int) (s : ByteArray) (ll : Nat) (hs : s.size ≤ 1099511627776) (hl : ll ≤ 9223372036854775807) : HereG (10) 0 ⟨#[]⟩ ll := by
 intro b cap w
 have B0 := hide (below_new w (.cells #[.int .i64 10, .int .i64 0, .string ⟨#[]⟩, .slice b ll cap] 26))
 have V : hereV (10) 0 ⟨#[]⟩ ll = (ll == 2) := by simp [hereV, Ex.here, eqE, eqE1, *]
 rw [V]
 clear V
 by_cases h0 : ll = 2
 ·
  subst h0
  go_enter Tryz.func184, Tryz.ntmps184
  go_wp2
  go_ret
  exact ⟨rfl, uh B0⟩
 ·
  have h1 : (ll == 2) = false := beq_eq_false_iff_ne.2 h0
  have h2 : ((ll : Int) == 2) = false := beq_eq_false_iff_ne.2 (by omega)
  rw [h1]
  clear h1 h0
  go_enter Tryz.func184, Tryz.ntmps184
  go_wp2
  go_ret
  exact ⟨rfl, uh B0⟩
theorem here_n (n : Int) (s : ByteArray) (ll : Nat) (k : Int) (h1 : k ≠ 1) (h2 : k ≠ 2) (h3 : k ≠ 3) (h4 : k ≠ 4) (h5 : k ≠ 5) (h6 : k ≠ 6) (h7 : k ≠ 7) (h8 : k ≠ 8) (h9 : k ≠ 9) (h10 : k ≠ 10) (h11 : k ≠ 11) (h12 : k ≠ 12) (h : n ≠ 0) (hs : s.size ≤ 1099511627776) (hl : ll ≤ 9223372036854775807) : HereG k n s ll := by
 intro b cap w
 have B0 := hide (below_new w (.cells #[.int .i64 k, .int .i64 n, .string s, .slice b ll cap] 26))
 have g1 : (k == 1) = false := beq_eq_false_iff_ne.2 h1
 have g2 : (k == 2) = false := beq_eq_false_iff_ne.2 h2
 have g3 : (k == 3) = false := beq_eq_false_iff_ne.2 h3
 have g4 : (k == 4) = false := beq_eq_false_iff_ne.2 h4
 have g5 : (k == 5) = false := beq_eq_false_iff_ne.2 h5
 have g6 : (k == 6) = false := beq_eq_false_iff_ne.2 h6
 have g7 : (k == 7) = false := beq_eq_false_iff_ne.2 h7
 have g8 : (k == 8) = false := beq_eq_false_iff_ne.2 h8
 have g9 : (k == 9) = false := beq_eq_false_iff_ne.2 h9
 have g10 : (k == 10) = false := beq_eq_false_iff_ne.2 h10
 have g11 : (k == 11) = false := beq_eq_false_iff_ne.2 h11
 have g12 : (k == 12) = false := beq_eq_false_iff_ne.2 h12
 have m1 : (k != 1) = true := by simp [h1]
 have m2 : (k != 2) = true := by simp [h2]
 have m11 : (k != 11) = true := by simp [h11]
 have m12 : (k != 12) = true := by simp [h12]
 have V : hereV k n s ll = false := by unfold hereV Ex.here; simp only; split; rfl; repeat (first | rfl | rw [if_neg (by omega)])
 rw [V]
 clear V
 go_enter Tryz.func184, Tryz.ntmps184
 go_wp2
 go_ret
 exact ⟨rfl, uh B0⟩
theorem here_s (n : Int) (s : ByteArray) (ll : Nat) (k : Int) (h1 : k ≠ 1) (h2 : k ≠ 2) (h3 : k ≠ 3) (h4 : k ≠ 4) (h5 : k ≠ 5) (h6 : k ≠ 6) (h7 : k ≠ 7) (h8 : k ≠ 8) (h9 : k ≠ 9) (h10 : k ≠ 10) (h11 : k ≠ 11) (h12 : k ≠ 12) (h : s ≠ E0) (hs : s.size ≤ 1099511627776) (hl : ll ≤ 9223372036854775807) : HereG k 0 s ll := by
 intro b cap w
 have B0 := hide (below_new w (.cells #[.int .i64 k, .int .i64 0, .string s, .slice b ll cap] 26))
 have g1 : (k == 1) = false := beq_eq_false_iff_ne.2 h1
 have g2 : (k == 2) = false := beq_eq_false_iff_ne.2 h2
 have g3 : (k == 3) = false := beq_eq_false_iff_ne.2 h3
 have g4 : (k == 4) = false := beq_eq_false_iff_ne.2 h4
 have g5 : (k == 5) = false := beq_eq_false_iff_ne.2 h5
 have g6 : (k == 6) = false := beq_eq_false_iff_ne.2 h6
 have g7 : (k == 7) = false := beq_eq_false_iff_ne.2 h7
 have g8 : (k == 8) = false := beq_eq_false_iff_ne.2 h8
 have g9 : (k == 9) = false := beq_eq_false_iff_ne.2 h9
 have g10 : (k == 10) = false := beq_eq_false_iff_ne.2 h10
 have g11 : (k == 11) = false := beq_eq_false_iff_ne.2 h11
 have g12 : (k == 12) = false := beq_eq_false_iff_ne.2 h12
 have m1 : (k != 1) = true := by simp [h1]
 have m2 : (k != 2) = true := by simp [h2]
 have m11 : (k != 11) = true := by simp [h11]
 have m12 : (k != 12) = true := by simp [h12]
 obtain ⟨hh1, hh2⟩ := emp_E s h
 have V : hereV k 0 s ll = false := by unfold hereV Ex.here; simp only; split; rfl; repeat (first | rfl | rw [if_neg (by omega)])
 rw [V]
 clear V
 go_enter Tryz.func184, Tryz.ntmps184
 go_wp2
 go_ret
 exact ⟨rfl, uh B0⟩
theorem here_0 (n : Int) (s : ByteArray) (ll : Nat) (k : Int) (h1 : k ≠ 1) (h2 : k ≠ 2) (h3 : k ≠ 3) (h4 : k ≠ 4) (h5 : k ≠ 5) (h6 : k ≠ 6) (h7 : k ≠ 7) (h8 : k ≠ 8) (h9 : k ≠ 9) (h10 : k ≠ 10) (h11 : k ≠ 11) (h12 : k ≠ 12) (hs : s.size ≤ 1099511627776) (hl : ll ≤ 9223372036854775807) : HereG k 0 ⟨#[]⟩ ll := by
 intro b cap w
 have B0 := hide (below_new w (.cells #[.int .i64 k, .int .i64 0, .string ⟨#[]⟩, .slice b ll cap] 26))
 have g1 : (k == 1) = false := beq_eq_false_iff_ne.2 h1
 have g2 : (k == 2) = false := beq_eq_false_iff_ne.2 h2
 have g3 : (k == 3) = false := beq_eq_false_iff_ne.2 h3
 have g4 : (k == 4) = false := beq_eq_false_iff_ne.2 h4
 have g5 : (k == 5) = false := beq_eq_false_iff_ne.2 h5
 have g6 : (k == 6) = false := beq_eq_false_iff_ne.2 h6
 have g7 : (k == 7) = false := beq_eq_false_iff_ne.2 h7
 have g8 : (k == 8) = false := beq_eq_false_iff_ne.2 h8
 have g9 : (k == 9) = false := beq_eq_false_iff_ne.2 h9
 have g10 : (k == 10) = false := beq_eq_false_iff_ne.2 h10
 have g11 : (k == 11) = false := beq_eq_false_iff_ne.2 h11
 have g12 : (k == 12) = false := beq_eq_false_iff_ne.2 h12
 have m1 : (k != 1) = true := by simp [h1]
 have m2 : (k != 2) = true := by simp [h2]
 have m11 : (k != 11) = true := by simp [h11]
 have m12 : (k != 12) = true := by simp [h12]
 have V : hereV k 0 ⟨#[]⟩ ll = false := by unfold hereV Ex.here; simp only; split; rfl; repeat (first | rfl | rw [if_neg (by omega)])
 rw [V]
 clear V
 go_enter Tryz.func184, Tryz.ntmps184
 go_wp2
 go_ret
 exact ⟨rfl, uh B0⟩
theorem hereS_any (e : Ex) (b : Option Addr) (cap : Nat) (w : World) (hs : e.s.size ≤ 1099511627776) (hl : e.l.length ≤ 9223372036854775807) : Calls Tryz.prog 184 #[.agg (e.cs b cap)] w fun r w' => r = .returned (.bool e.here) ∧ Below w.heap.size w w' := by
 rw [here_is]
 unfold Ex.cs
 obtain ⟨k, n, s, l⟩ := e
 simp only at hs hl ⊢
 generalize l.length = ll at *
 revert b cap w
 show HereG k n s ll
 by_cases c1 : k = 1
 ·
  subst c1
  by_cases h : s = E0
  · subst h; exact here1_0 n E0 ll hs hl
  · exact here1_s n s ll h hs hl
 by_cases c11 : k = 11
 ·
  subst c11
  by_cases h : s = E0
  · subst h; exact here11_0 n E0 ll hs hl
  · exact here11_s n s ll h hs hl
 by_cases c2 : k = 2
 ·
  subst c2
  by_cases h : n = 0
  · subst h; exact here2_0 0 s ll hs hl
  · exact here2_n n s ll h hs hl
 by_cases c12 : k = 12
 ·
  subst c12
  by_cases h : n = 0
  · subst h; exact here12_0 0 s ll hs hl
  · exact here12_n n s ll h hs hl
 by_cases c3 : k = 3
 ·
  subst c3
  by_cases h : n = 0
  ·
   subst h
   by_cases h : s = E0
   · subst h; exact here3_0 0 E0 ll hs hl
   · exact here3_s 0 s ll h hs hl
  · exact here3_n n s ll h hs hl
 by_cases c4 : k = 4
 ·
  subst c4
  by_cases h : n = 0
  ·
   subst h
   by_cases h : s = E0
   · subst h; exact here4_0 0 E0 ll hs hl
   · exact here4_s 0 s ll h hs hl
  · exact here4_n n s ll h hs hl
 by_cases c5 : k = 5
 ·
  subst c5
  by_cases h : n = 0
  ·
   subst h
   by_cases h : s = E0
   · subst h; exact here5_0 0 E0 ll hs hl
   · exact here5_s 0 s ll h hs hl
  · exact here5_n n s ll h hs hl
 by_cases c6 : k = 6
 ·
  subst c6
  by_cases h : n = 0
  ·
   subst h
   by_cases h : s = E0
   · subst h; exact here6_0 0 E0 ll hs hl
   · exact here6_s 0 s ll h hs hl
  · exact here6_n n s ll h hs hl
 by_cases c7 : k = 7
 ·
  subst c7
  by_cases h : n = 0
  ·
   subst h
   by_cases h : s = E0
   · subst h; exact here7_0 0 E0 ll hs hl
   · exact here7_s 0 s ll h hs hl
  · exact here7_n n s ll h hs hl
 by_cases c8 : k = 8
 ·
  subst c8
  by_cases h : n = 0
  ·
   subst h
   by_cases h : s = E0
   · subst h; exact here8_0 0 E0 ll hs hl
   · exact here8_s 0 s ll h hs hl
  · exact here8_n n s ll h hs hl
 by_cases c9 : k = 9
 ·
  subst c9
  by_cases h : n = 0
  ·
   subst h
   by_cases h : s = E0
   · subst h; exact here9_0 0 E0 ll hs hl
   · exact here9_s 0 s ll h hs hl
  · exact here9_n n s ll h hs hl
 by_cases c10 : k = 10
 ·
  subst c10
  by_cases h : n = 0
  ·
   subst h
   by_cases h : s = E0
   · subst h; exact here10_0 0 E0 ll hs hl
   · exact here10_s 0 s ll h hs hl
  · exact here10_n n s ll h hs hl
 by_cases h : n = 0
 ·
  subst h
  by_cases h : s = E0
  · subst h; exact here_0 0 E0 ll k c1 c2 c3 c4 c5 c6 c7 c8 c9 c10 c11 c12 hs hl
  · exact here_s 0 s ll k c1 c2 c3 c4 c5 c6 c7 c8 c9 c10 c11 c12 h hs hl
 · exact here_n n s ll k c1 c2 c3 c4 c5 c6 c7 c8 c9 c10 c11 c12 h hs hl
def lessX (left : Int) (z : Nat) : Int := if left - (z : Int) < 0 then -1 else left - (z : Int)
def SzP (e : Ex) : Prop := ∀ (b : Option Addr) (cap : Nat) (left : Int) (w : World), RdX w 0 e b → Fit e → 0 ≤ left → left ≤ 1048576 → Calls Tryz.prog 189 #[.agg (e.cs b cap), .int .i64 left] w fun r w' => r = .returned (.int .i64 (lessX left e.sz)) ∧ Below w.heap.size w w'
theorem szXS_of (e : Ex) (ih : ∀ i, i < e.l.length → SzP (xAt e.l i)) (b : Option Addr) (cap : Nat) (left : Int) (w : World) (hr : RdX w 0 e b) (hf : Fit e) (h0 : 0 ≤ left) (h1 : left ≤ 1048576) : Calls Tryz.prog 146 #[.slice b e.l.length cap, .int .i64 left] w fun r w' => r = .returned (.int .i64 (lessX left (e.l.length + szX e.l))) ∧ Below w.heap.size w w' := by
 obtain ⟨_, hm, hfi⟩ := (Fit_eq e).1 hf
 rw [RdX_eq] at hr
 generalize e.l = l at *
 clear hf
 obtain ⟨len, hl⟩ : ∃ len, l.length = len := ⟨_, rfl⟩
 rw [hl] at hm ih hfi hr ⊢
 by_cases hbig : left - (len : Int) < 0
 ·
  have E := hide (show lessX left (len + szX l) = -1 by unfold lessX; rw [if_pos (by omega)])
  rw [uh E]
  go_enter Tryz.func146, Tryz.ntmps146
  go_wp2
  go_ret
  exact ⟨rfl, Below.refl _ _⟩
 ·
  obtain ⟨T, hT⟩ : ∃ T, lessX left (len + szX l) = T := ⟨_, rfl⟩
  have HT := hide hT
  rw [hT]
  clear hT
  go_enter Tryz.func146, Tryz.ntmps146
  go_wp2
  go_loopw [1, 5] (fun lv i wr => ∃ k : Nat, k ≤ len ∧ i = .int .i64 k ∧ 0 ≤ left - (len : Int) - (szX (l.take k) : Int) ∧ lv = .int .i64 (left - len - szX (l.take k)) ∧ Below w.heap.size w wr) (fun _ i _ => len - (intOf i).toNat)
  case atStart => exact ⟨0, Nat.zero_le _, rfl, by simp [szX]; omega, by simp [szX], Below.refl _ _⟩
  case round =>
   obtain ⟨k, hk, rfl, hs, rfl, hb⟩ := hrel
   by_cases hlt : k < len
   ·
    rcases hr with h00 | ⟨b, off, rfl, _, hbl, hc⟩
    · rw [h00] at hl; simp at hl; omega
    obtain ⟨c0, c1, c2, c, cap', c3, c4⟩ := hc k (by omega)
    have d0 : wr.cell? ⟨b, off + k * 4, none⟩ = _ := (hb.cell (p := ⟨b, _, none⟩) hbl).trans c0
    have d1 : wr.cell? ⟨b, off + k * 4 + 1, none⟩ = _ := (hb.cell (p := ⟨b, _, none⟩) hbl).trans c1
    have d2 : wr.cell? ⟨b, off + k * 4 + 2, none⟩ = _ := (hb.cell (p := ⟨b, _, none⟩) hbl).trans c2
    have d3 : wr.cell? ⟨b, off + k * 4 + 3, none⟩ = _ := (hb.cell (p := ⟨b, _, none⟩) hbl).trans c3
    have HS := hide (ih k hlt c cap' (left - len - szX (l.take k)) wr (c4.later hb) (hfi k hlt) hs (by omega))
    have ST := hide (szX_take l k (by omega))
    have SL := hide (szX_le l (k + 1))
    clear c0 c1 c2 c3 c4 hc
    unfold Ex.cs at HS
    generalize hzs : (xAt l k).sz = z at HS ST
    generalize (xAt l k).s = ss at d2 HS
    generalize (xAt l k).k = kk at d0 HS
    generalize (xAt l k).n = nn at d1 HS
    generalize (xAt l k).l.length = ll at d3 HS
    by_cases hneg : left - (len : Int) - (szX (l.take k) : Int) - (z : Int) < 0
    ·
     have E := hide (show T = -1 by rw [← uh HT]; unfold lessX; rw [if_pos]; have := uh ST; have := uh SL; omega)
     have E2 : lessX (left - (len : Int) - (szX (l.take k) : Int)) z = -1 := by unfold lessX; rw [if_pos hneg]
     rw [E2] at HS
     go_wp2_with (go_at_call 189; refine (uh HS).mono ?_; rintro e w1 ⟨rfl, hb1⟩)
     go_ret
     exact ⟨by rw [uh E]; rfl, hb.trans (hb1.mono hb.size)⟩
    ·
     have E2 : lessX (left - (len : Int) - (szX (l.take k) : Int)) z = left - (len : Int) - (szX (l.take k) : Int) - (z : Int) := by unfold lessX; rw [if_neg hneg]
     rw [E2] at HS
     go_wp2_with (go_at_call 189; refine (uh HS).mono ?_; rintro e w1 ⟨rfl, hb1⟩)
     go_roundw
     case rel =>
      refine ⟨k + 1, by omega, by go_num, ?_, ?_, hb.trans (hb1.mono hb.size)⟩
      · rw [uh ST]; omega
      · rw [uh ST]; congr 1; omega
     case measure => simp [intOf]; omega
   ·
    obtain rfl : k = len := by omega
    have E := hide (show l.take k = l by rw [← hl, List.take_length])
    rw [uh E] at hs
    have E2 := hide (show T = left - (k : Int) - (szX (l.take k) : Int) by rw [← uh HT]; unfold lessX; rw [uh E, if_neg (by omega)]; omega)
    go_wp2
    go_ret
    exact ⟨by rw [uh E2]; rfl, hb⟩
theorem szX_any (e : Ex) : SzP e := by
 induction e using Ex.ind with
 | h k n s l ih =>
  intro b cap left w hr hf h0 h1
  have hs := ((Fit_eq _).1 hf).1
  have HZ := hide (fun (w1 : World) (hb : Below w.heap.size w w1) (lv : Int) (h2 : 0 ≤ lv) (h3 : lv ≤ 1048576) => szXS_of ⟨k, n, s, l⟩ (fun i hi => ih _ (xAt_mem hi)) b cap lv w1 (hr.later hb) hf h2 h3)
  have SZ := hide (sz_is ⟨k, n, s, l⟩)
  have e1 : (Ex.mk k n s l).s = s := rfl
  have e2 : (Ex.mk k n s l).l = l := rfl
  rw [e1] at hs
  rw [e1, e2] at SZ
  rw [e2] at HZ
  unfold Ex.cs
  simp only
  rw [uh SZ]
  clear hr hf ih SZ e1 e2
  generalize hll : l.length = ll at *
  generalize szX l = zz at *
  have hbW : Below w.heap.size w (w.alloc (.cells #[.int .i64 k, .int .i64 n, .string s, .slice b ll cap] 117)) := (Below.refl _ _).alloc (Nat.le_refl _) _
  have HB := hide hbW
  by_cases hneg : left - (s.size : Int) < 0
  ·
   have E := hide (show lessX left (s.size + ll + zz) = -1 by unfold lessX; rw [if_pos (by omega)])
   rw [uh E]
   clear HZ hbW
   go_enter Tryz.func189, Tryz.ntmps189
   go_wp2
   go_ret
   exact ⟨rfl, uh HB⟩
  ·
   have HS := hide (uh HZ _ hbW (left - s.size) (by omega) (by omega))
   by_cases hneg2 : left - (s.size : Int) - ((ll + zz : Nat) : Int) < 0
   ·
    have E := hide (show lessX left (s.size + ll + zz) = -1 by unfold lessX; rw [if_pos (by omega)])
    have E2 : lessX (left - s.size) (ll + zz) = -1 := by unfold lessX; rw [if_pos (by omega)]
    rw [E2] at HS
    rw [uh E]
    clear HZ hbW
    go_enter Tryz.func189, Tryz.ntmps189
    go_wp2_with (go_at_call 146; refine (uh HS).mono ?_; rintro e w1 ⟨rfl, hb1⟩)
    go_ret
    exact ⟨rfl, (uh HB).trans (hb1.mono (uh HB).size)⟩
   ·
    have E := hide (show lessX left (s.size + ll + zz) = left - (s.size : Int) - ((ll + zz : Nat) : Int) by unfold lessX; rw [if_neg (by omega)]; omega)
    have E2 : lessX (left - s.size) (ll + zz) = left - (s.size : Int) - ((ll + zz : Nat) : Int) := by unfold lessX; rw [if_neg (by omega)]
    rw [E2] at HS
    rw [uh E]
    have hp : 0 ≤ left - (s.size : Int) - ((ll + zz : Nat) : Int) := by omega
    clear HZ hbW
    generalize left - (s.size : Int) - ((ll + zz : Nat) : Int) = rest at *
    go_enter Tryz.func189, Tryz.ntmps189
    go_wp2_with (go_at_call 146; refine (uh HS).mono ?_; rintro e w1 ⟨rfl, hb1⟩)
    go_ret
    exact ⟨rfl, (uh HB).trans (hb1.mono (uh HB).size)⟩
theorem infoX : (Tryz.prog.info? 26).map (fun i => (i.zero, i.size, i.bytes)) = some (some (.agg #[.int .i64 0, .int .i64 0, .string ⟨#[]⟩, .slice none 0 0]), 4, 56) := by kernel_rfl
theorem sz_part {l : List Ex} {i : Nat} (h : i < l.length) : (xAt l i).sz ≤ szX l := by
 have h1 := szX_take l i h
 have h2 := szX_le l (i + 1)
 omega
def OwIn (w : World) (cs : List Value) (i : Nat) (x : Ex) (F : List Nat) : Prop := cs[i * 4]? = some (.int .i64 x.k) ∧ cs[i * 4 + 1]? = some (.int .i64 x.n) ∧ cs[i * 4 + 2]? = some (.string x.s) ∧ ∃ c cap, cs[i * 4 + 3]? = some (.slice c x.l.length cap) ∧ OwX w x c F
theorem OwIn.keep {w w' : World} {cs : List Value} {i : Nat} {x : Ex} {F : List Nat} (h : OwIn w cs i x F) (hk : ∀ b ∈ F, w'.heap[b]? = w.heap[b]?) : OwIn w' cs i x F := by
 obtain ⟨h0, h1, h2, c, cap, h3, h4⟩ := h
 exact ⟨h0, h1, h2, c, cap, h3, OwX.keep _ _ _ hk h4⟩
theorem ownsRow_heap {w : World} {B g n cap size : Nat} {t : TypeId} {cs : List Value} (h : w.ownsRow B t size (.slice (some ⟨g, 0, none⟩) n cap) n cs) : ∃ cur : Array Value, w.heap[g]? = some (.cells cur t (0, 0)) ∧ n * size ≤ cur.size ∧ ∀ j, j < n * size → cur[j]? = cs[j]? := by
 obtain ⟨h1, ⟨e, _⟩ | ⟨g', cap', cur, e, hg, hh, hn, hm, hz, ht⟩⟩ := h
 · cases e
 ·
  cases e
  refine ⟨cur, hh, by rw [hz]; exact Nat.mul_le_mul_right _ hn, fun j hj => ?_⟩
  rw [← ht, List.getElem?_take, if_pos hj, Array.getElem?_toList]
def DoneX (w : World) (g : Nat) (l : List Ex) (n cap k M : Nat) : Prop := ∃ (cs : List Value) (Fs : List (List Nat)), w.ownsRow g 26 4 (.slice (some ⟨g, 0, none⟩) n cap) n cs ∧ Fs.length = k ∧ Fs.flatten.Nodup ∧ (∀ b ∈ Fs.flatten, g < b ∧ b < M) ∧ ∀ i, i < k → OwIn w cs i (xAt l i) (Fs.getD i [])
theorem ownsRow_later {w w' : World} {B g n cap m : Nat} {t : TypeId} {cs : List Value} (h : w.ownsRow B t m (.slice (some ⟨g, 0, none⟩) n cap) n cs) (hb : Below w.heap.size w w') : w'.ownsRow B t m (.slice (some ⟨g, 0, none⟩) n cap) n cs := by
 obtain ⟨h1, h2 | ⟨g, cap, cur, e, hg, hh, r⟩⟩ := h
 · exact ⟨h1, .inl h2⟩
 · exact ⟨h1, .inr ⟨g, cap, cur, e, hg, (hb.block g (Array.getElem?_eq_some_iff.1 hh).1).trans hh, r⟩⟩
theorem OwIn.lt {w : World} {cs : List Value} {i : Nat} {x : Ex} {F : List Nat} (h : OwIn w cs i x F) : ∀ b ∈ F, b < w.heap.size := by
 obtain ⟨_, _, _, c, cap, _, h⟩ := h
 exact OwX.lt _ _ _ h
theorem DoneX.later {w w' : World} {g n cap k M : Nat} {l : List Ex} (h : DoneX w g l n cap k M) (hb : Below w.heap.size w w') : DoneX w' g l n cap k M := by
 obtain ⟨cs, Fs, h1, h2, h3, h4, h5⟩ := h
 exact ⟨cs, Fs, ownsRow_later h1 hb, h2, h3, h4, fun i hi => (h5 i hi).keep fun b hF => hb.block b ((h5 i hi).lt b hF)⟩
theorem flat_snoc (Fs : List (List Nat)) (F : List Nat) : (Fs ++ [F]).flatten = Fs.flatten ++ F := by simp
theorem getD_snoc_lt {Fs : List (List Nat)} {F : List Nat} {i : Nat} (h : i < Fs.length) : (Fs ++ [F]).getD i [] = Fs.getD i [] := by
 rw [List.getD_eq_getElem?_getD, List.getD_eq_getElem?_getD, List.getElem?_append_left h]
theorem getD_snoc_eq {Fs : List (List Nat)} {F : List Nat} {i : Nat} (h : i = Fs.length) : (Fs ++ [F]).getD i [] = F := by
 rw [List.getD_eq_getElem?_getD, h, List.getElem?_append_right (Nat.le_refl _)]
 simp
theorem nodup_snoc {a b : List Nat} {M : Nat} (ha : a.Nodup) (hb : b.Nodup) (h1 : ∀ x ∈ a, x < M) (h2 : ∀ x ∈ b, M ≤ x) : (a ++ b).Nodup := by
 rw [List.nodup_append]
 exact ⟨ha, hb, fun x hx y hy e => by have := h1 x hx; have := h2 y hy; omega⟩
theorem DoneX.put {w : World} {g n cap k M M' : Nat} {l : List Ex} (h : DoneX w g l n cap k M) (hk : k < n) (hg : g < M) (hM : M ≤ M') (c : Option Addr) (cp : Nat) (hr : NewX w M (xAt l k) c) (hz : w.heap.size ≤ M') :
  DoneX ((((w.setCell ⟨g, k * 4, none⟩ (.int .i64 (xAt l k).k)).setCell ⟨g, k * 4 + 1, none⟩ (.int .i64 (xAt l k).n)).setCell ⟨g, k * 4 + 2, none⟩ (.string (xAt l k).s)).setCell ⟨g, k * 4 + 3, none⟩ (.slice c (xAt l k).l.length cp)) g l n cap (k + 1) M' := by
 obtain ⟨cs, Fs, h1, h2, h3, h4, h5⟩ := h
 obtain ⟨F, q1, q2, q3⟩ := hr
 have hlen : cs.length = n * 4 := h1.1
 have s1 := (World.ownsRow.stored h1 (k * 4) (.int .i64 (xAt l k).k)).1
 have s2 := (World.ownsRow.stored s1 (k * 4 + 1) (.int .i64 (xAt l k).n)).1
 have s3 := (World.ownsRow.stored s2 (k * 4 + 2) (.string (xAt l k).s)).1
 have s4 := (World.ownsRow.stored s3 (k * 4 + 3) (.slice c (xAt l k).l.length cp)).1
 have hkeep : ∀ b, g < b → ((((w.setCell ⟨g, k * 4, none⟩ (.int .i64 (xAt l k).k)).setCell ⟨g, k * 4 + 1, none⟩ (.int .i64 (xAt l k).n)).setCell ⟨g, k * 4 + 2, none⟩ (.string (xAt l k).s)).setCell ⟨g, k * 4 + 3, none⟩ (.slice c (xAt l k).l.length cp)).heap[b]? = w.heap[b]? := fun b hb => by
  rw [heap_setCell_other _ _ _ _ (by show b ≠ g; omega), heap_setCell_other _ _ _ _ (by show b ≠ g; omega), heap_setCell_other _ _ _ _ (by show b ≠ g; omega), heap_setCell_other _ _ _ _ (by show b ≠ g; omega)]
 refine ⟨_, Fs ++ [F], s4, by simp [h2], ?_, ?_, fun i hi => ?_⟩
 ·
  rw [flat_snoc]
  exact nodup_snoc h3 q2 (fun x hx => (h4 x hx).2) q3
 ·
  rw [flat_snoc]
  intro b hb
  rcases List.mem_append.1 hb with hb | hb
  · have := h4 b hb; exact ⟨this.1, by omega⟩
  ·
   have := q3 b hb
   have := OwX.lt _ _ _ q1 b hb
   exact ⟨by omega, by omega⟩
 ·
  by_cases hik : i = k
  ·
   subst hik
   rw [getD_snoc_eq h2.symm]
   refine ⟨?_, ?_, ?_, c, cp, ?_, OwX.keep _ _ _ (fun b hb => hkeep b (by have := q3 b hb; omega)) q1⟩
   · rw [List.getElem?_set_ne (by omega), List.getElem?_set_ne (by omega), List.getElem?_set_ne (by omega), List.getElem?_set_self (by omega)]
   · rw [List.getElem?_set_ne (by omega), List.getElem?_set_ne (by omega), List.getElem?_set_self (by simp; omega)]
   · rw [List.getElem?_set_ne (by omega), List.getElem?_set_self (by simp; omega)]
   · rw [List.getElem?_set_self (by simp; omega)]
  ·
   rw [getD_snoc_lt (by omega)]
   obtain ⟨p0, p1, p2, c', cap', p3, p4⟩ := (h5 i (by omega)).keep (w' := ((((w.setCell ⟨g, k * 4, none⟩ (.int .i64 (xAt l k).k)).setCell ⟨g, k * 4 + 1, none⟩ (.int .i64 (xAt l k).n)).setCell ⟨g, k * 4 + 2, none⟩ (.string (xAt l k).s)).setCell ⟨g, k * 4 + 3, none⟩ (.slice c (xAt l k).l.length cp))) (fun b hb => hkeep b (h4 b (getD_flat hb)).1)
   refine ⟨?_, ?_, ?_, c', cap', ?_, p4⟩
   · rw [List.getElem?_set_ne (by omega), List.getElem?_set_ne (by omega), List.getElem?_set_ne (by omega), List.getElem?_set_ne (by omega)]; exact p0
   · rw [List.getElem?_set_ne (by omega), List.getElem?_set_ne (by omega), List.getElem?_set_ne (by omega), List.getElem?_set_ne (by omega)]; exact p1
   · rw [List.getElem?_set_ne (by omega), List.getElem?_set_ne (by omega), List.getElem?_set_ne (by omega), List.getElem?_set_ne (by omega)]; exact p2
   · rw [List.getElem?_set_ne (by omega), List.getElem?_set_ne (by omega), List.getElem?_set_ne (by omega), List.getElem?_set_ne (by omega)]; exact p3
theorem DoneX.new {w : World} {g cap M : Nat} {e : Ex} (h : DoneX w g e.l e.l.length cap e.l.length M) : NewX w g e (some ⟨g, 0, none⟩) := by
 obtain ⟨cs, Fs, h1, h2, h3, h4, h5⟩ := h
 by_cases h0 : e.l.length = 0
 ·
  obtain ⟨k, n, s, l⟩ := e
  obtain rfl : l = [] := List.length_eq_zero_iff.1 h0
  exact NewX.nil ..
 ·
  obtain ⟨cur, hh, hz, hc⟩ := ownsRow_heap h1
  refine ⟨g :: Fs.flatten, (OwX_eq _ _ _ _).2 (.inr ⟨g, cur, 26, Fs, rfl, hh, hz, h2, rfl, fun i hi => ?_⟩), ?_, ?_⟩
  ·
   obtain ⟨p0, p1, p2, c, cp, p3, p4⟩ := h5 i hi
   exact ⟨(hc _ (by omega)).trans p0, (hc _ (by omega)).trans p1, (hc _ (by omega)).trans p2, c, cp, (hc _ (by omega)).trans p3, p4⟩
  · exact List.nodup_cons.2 ⟨fun hb => by have := (h4 g hb).1; omega, h3⟩
  ·
   intro b hb
   rcases List.mem_cons.1 hb with rfl | hb
   · exact Nat.le_refl _
   · exact Nat.le_of_lt (h4 b hb).1
def ToP (e : Ex) : Prop := ∀ (b : Option Addr) (cap : Nat) (w : World), RdX w 0 e b → e.sz ≤ 1048576 → Calls Tryz.prog 190 #[.agg (e.cs b cap)] w fun r w' => ∃ (c : Option Addr) (cap' : Nat), r = .returned (.agg (e.cs c cap')) ∧ NewX w' w.heap.size e c ∧ Below w.heap.size w w'
theorem box4 (w : World) (e : Ex) (b : Option Addr) (cap : Nat) (ty : TypeId) : (w.alloc (.cells (e.cs b cap) ty)).cell? ⟨w.heap.size, 0, none⟩ = some (.int .i64 e.k) ∧ (w.alloc (.cells (e.cs b cap) ty)).cell? ⟨w.heap.size, 1, none⟩ = some (.int .i64 e.n) ∧ (w.alloc (.cells (e.cs b cap) ty)).cell? ⟨w.heap.size, 2, none⟩ = some (.string e.s) ∧ (w.alloc (.cells (e.cs b cap) ty)).cell? ⟨w.heap.size, 3, none⟩ = some (.slice b e.l.length cap) := by
 have h : (w.alloc (.cells (e.cs b cap) ty)).heap[w.heap.size]? = some (.cells (e.cs b cap) ty (0, 0)) := Array.getElem?_push_size
 exact ⟨Lib.cell_of_heap h 0, Lib.cell_of_heap h 1, Lib.cell_of_heap h 2, Lib.cell_of_heap h 3⟩
theorem all_take (l : List Ex) (f : Ex → Bool) (k : Nat) (h : k < l.length) : (l.take (k + 1)).all f = ((l.take k).all f && f (xAt l k)) := by
 rw [List.take_succ_eq_append_getElem h, List.all_append, xAt_get h]
 simp
theorem all_part {l : List Ex} {f : Ex → Bool} {k : Nat} (h : k < l.length) (hf : f (xAt l k) = false) : l.all f = false := by
 rw [List.all_eq_false]
 exact ⟨_, xAt_mem h, by rw [hf]; decide⟩
theorem okF_s (d : Nat) (p : Bool) (e : Ex) : okF (d + 1) p e = (e.here && (!(p && (e.k == 11 || e.k == 12)) && e.l.all (okF d p))) := rfl
theorem okS_all : ∀ d : Nat, d ≤ 6 → ∀ (e : Ex) (b : Option Addr) (cap : Nat) (p : Bool) (w : World), RdX w 0 e b → e.sz ≤ 1048576 → Calls Tryz.prog 127 #[.agg (e.cs b cap), .int .i64 (7 - (d : Int)), .bool p] w fun r w' => r = .returned (.bool (okF d p e)) ∧ Below w.heap.size w w' := by
 intro d
 induction d with
 | zero =>
  intro _ e b cap p w hr hz
  have B0 := hide (below_new w (.cells (e.cs b cap) 26))
  rw [show okF 0 p e = false from rfl]
  unfold Ex.cs at B0 ⊢
  go_enter Tryz.func127, Tryz.ntmps127
  go_wp2
  go_ret
  exact ⟨rfl, uh B0⟩
 | succ d ih =>
  intro hd e b cap p w hr hz
  have hsz := sz_is e
  rw [okF_s]
  have hbW := below_new w (.cells (e.cs b cap) 26)
  have B0 := hide hbW
  have HH := hereS_any e b cap (w.alloc (.cells (e.cs b cap) 26)) (by omega) (by omega)
  obtain ⟨x0, x1, x2, x3⟩ := box4 w e b cap 26
  have xl : w.heap.size < (w.alloc (.cells (e.cs b cap) 26)).heap.size := by simp
  have hrW := hr.later hbW
  rw [RdX_eq] at hrW
  have hp : ∀ i, i < e.l.length → (xAt e.l i).sz ≤ 1048576 := fun i hi => by have := sz_part hi; omega
  have hm : e.l.length ≤ 1048576 := by omega
  have ihd := ih (by omega)
  have hD : (7 : Int) - ((d + 1 : Nat) : Int) + 1 = 7 - (d : Int) := by omega
  have hD6 : ¬ (6 < (7 : Int) - ((d + 1 : Nat) : Int)) := by omega
  have hDb : -100 ≤ (7 : Int) - ((d + 1 : Nat) : Int) ∧ (7 : Int) - ((d + 1 : Nat) : Int) ≤ 100 := by omega
  generalize hDD : (7 : Int) - ((d + 1 : Nat) : Int) = DD at *
  clear hr hsz hz hbW ih hDD
  generalize e.here = hq at *
  unfold Ex.cs at B0 HH x0 x1 x2 x3 xl hrW ⊢
  generalize e.l = l at *
  generalize e.k = k at *
  generalize e.n = n at *
  generalize e.s = s at *
  obtain ⟨len, hl⟩ : ∃ len, l.length = len := ⟨_, rfl⟩
  rw [hl] at hm hp HH x0 x1 x2 x3 B0 xl hrW ⊢
  obtain ⟨W, hW⟩ : ∃ W, w.alloc (.cells #[.int .i64 k, .int .i64 n, .string s, .slice b len cap] 26) = W := ⟨_, rfl⟩
  rw [hW] at HH x0 x1 x2 x3 B0 xl hrW
  have HC := hide HH
  have E0 : ∀ y : Sub W.heap.size W, y.w.cell? ⟨w.heap.size, 0, none⟩ = _ := fun y => (y.h.cell (p := ⟨w.heap.size, _, none⟩) xl).trans x0
  have E3 : ∀ y : Sub W.heap.size W, y.w.cell? ⟨w.heap.size, 3, none⟩ = _ := fun y => (y.h.cell (p := ⟨w.heap.size, _, none⟩) xl).trans x3
  have ne := Sub.ne W.heap.size W
  have HZ := hide (Nat.le_refl W.heap.size)
  have HB := hide (fun y : Sub W.heap.size W => (uh B0).trans (y.h.mono (uh B0).size))
  clear HH xl
  obtain ⟨T, hT⟩ : ∃ T, (hq && (!(p && (k == 11 || k == 12)) && l.all (okF d p))) = T := ⟨_, rfl⟩
  have HT := hide hT
  rw [hT]
  clear hT
  go_enter Tryz.func127, Tryz.ntmps127
  go_wp2_with fail
  refine (Sub.call (x := ⟨W, Below.refl _ _⟩) (uh HZ) (uh HC)).mono ?_
  rintro r _ ⟨rfl, y, rfl⟩
  clear HC x0 x1 x2 x3
  cases hq with
  | false =>
   have EF := hide ((uh HT).symm.trans (Bool.false_and _))
   go_wp2
   go_ret
   exact ⟨by rw [uh EF]; rfl, uh HB _⟩
  | true =>
   by_cases hx : (p && (k == 11 || k == 12)) = true
   ·
    have EF := hide (show T = false by rw [← uh HT, hx]; rfl)
    have hpp : p = true := by cases p with | true => rfl | false => simp at hx
    subst hpp
    by_cases h11 : k = 11
    ·
     subst h11
     go_wp2
     go_ret
     exact ⟨by rw [uh EF]; rfl, uh HB _⟩
    ·
     have h12 : k = 12 := by simpa [h11] using hx
     subst h12
     go_wp2
     go_ret
     exact ⟨by rw [uh EF]; rfl, uh HB _⟩
   ·
    have hxf : (p && (k == 11 || k == 12)) = false := by simpa using hx
    rw [hxf] at HT
    have HT := hide (show l.all (okF d p) = T by rw [← uh HT]; simp)
    clear hxf
    cases p with
    | false =>
     clear hx
     go_wp2
     go_loopw [7] (fun i wr => ∃ (j : Nat) (z : Sub W.heap.size W), j ≤ len ∧ i = .int .i64 j ∧ (l.take j).all (okF d false) = true ∧ wr = z.w) (fun i _ => len - (intOf i).toNat)
     case atStart => exact ⟨0, y, Nat.zero_le _, rfl, rfl, rfl⟩
     case round =>
      obtain ⟨j, z, hj, rfl, hdone, rfl⟩ := hrel
      have HD := hide hdone
      clear hdone
      by_cases hlt : j < len
      ·
       rcases hrW with h0 | ⟨p1, po, hb1, _, hp1, hpc⟩
       · rw [h0] at hl; simp at hl; omega
       subst hb1
       obtain ⟨e0, e1, e2, pc, pp, e3, e4⟩ := hpc j (by omega)
       have d0 : ∀ y : Sub W.heap.size W, y.w.cell? ⟨p1, po + j * 4, none⟩ = _ := fun y => (y.h.cell (p := ⟨p1, _, none⟩) hp1).trans e0
       have d1 : ∀ y : Sub W.heap.size W, y.w.cell? ⟨p1, po + j * 4 + 1, none⟩ = _ := fun y => (y.h.cell (p := ⟨p1, _, none⟩) hp1).trans e1
       have d2 : ∀ y : Sub W.heap.size W, y.w.cell? ⟨p1, po + j * 4 + 2, none⟩ = _ := fun y => (y.h.cell (p := ⟨p1, _, none⟩) hp1).trans e2
       have d3 : ∀ y : Sub W.heap.size W, y.w.cell? ⟨p1, po + j * 4 + 3, none⟩ = _ := fun y => (y.h.cell (p := ⟨p1, _, none⟩) hp1).trans e3
       have HE := hide (fun y : Sub W.heap.size W => ihd (xAt l j) pc pp false y.w (e4.later y.h) (hp j hlt))
       have AT := hide (all_take l (okF d false) j (by omega))
       have AP := hide (fun h => all_part (f := okF d false) (show j < l.length by omega) h)
       clear e0 e1 e2 e3 e4 hpc ihd hp
       unfold Ex.cs at HE
       generalize okF d false (xAt l j) = q at *
       generalize (xAt l j).s = ss at *
       generalize (xAt l j).k = kk at *
       generalize (xAt l j).n = nn at *
       generalize (xAt l j).l.length = ll at *
       cases q with
       | false =>
        have EF := hide ((uh HT).symm.trans (uh AP rfl))
        go_wp2_with (go_at_call 127; refine (Sub.call (uh HZ) (uh HE _)).mono ?_; rintro r _ ⟨rfl, z2, rfl⟩)
        go_ret
        exact ⟨by rw [uh EF]; rfl, uh HB _⟩
       | true =>
        go_wp2_with (go_at_call 127; refine (Sub.call (uh HZ) (uh HE _)).mono ?_; rintro r _ ⟨rfl, z2, rfl⟩)
        go_roundw
        case rel => exact ⟨j + 1, z2, by omega, by go_num, by rw [uh AT, uh HD]; rfl, rfl⟩
        case measure => simp [intOf]; omega
      ·
       obtain rfl : j = len := by omega
       have EF := hide ((uh HT).symm.trans ((show l.all (okF d false) = (l.take j).all (okF d false) by rw [← hl, List.take_length]).trans (uh HD)))
       go_wp2
       go_ret
       exact ⟨by rw [uh EF]; rfl, uh HB _⟩
    | true =>
     have h11 : (k == 11) = false := by simp at hx; simp [hx.1]
     have h12 : (k == 12) = false := by simp at hx; simp [hx.2]
     clear hx
     go_wp2
     go_loopw [7] (fun i wr => ∃ (j : Nat) (z : Sub W.heap.size W), j ≤ len ∧ i = .int .i64 j ∧ (l.take j).all (okF d true) = true ∧ wr = z.w) (fun i _ => len - (intOf i).toNat)
     case atStart => exact ⟨0, y, Nat.zero_le _, rfl, rfl, rfl⟩
     case round =>
      obtain ⟨j, z, hj, rfl, hdone, rfl⟩ := hrel
      have HD := hide hdone
      clear hdone
      by_cases hlt : j < len
      ·
       rcases hrW with h0 | ⟨p1, po, hb1, _, hp1, hpc⟩
       · rw [h0] at hl; simp at hl; omega
       subst hb1
       obtain ⟨e0, e1, e2, pc, pp, e3, e4⟩ := hpc j (by omega)
       have d0 : ∀ y : Sub W.heap.size W, y.w.cell? ⟨p1, po + j * 4, none⟩ = _ := fun y => (y.h.cell (p := ⟨p1, _, none⟩) hp1).trans e0
       have d1 : ∀ y : Sub W.heap.size W, y.w.cell? ⟨p1, po + j * 4 + 1, none⟩ = _ := fun y => (y.h.cell (p := ⟨p1, _, none⟩) hp1).trans e1
       have d2 : ∀ y : Sub W.heap.size W, y.w.cell? ⟨p1, po + j * 4 + 2, none⟩ = _ := fun y => (y.h.cell (p := ⟨p1, _, none⟩) hp1).trans e2
       have d3 : ∀ y : Sub W.heap.size W, y.w.cell? ⟨p1, po + j * 4 + 3, none⟩ = _ := fun y => (y.h.cell (p := ⟨p1, _, none⟩) hp1).trans e3
       have HE := hide (fun y : Sub W.heap.size W => ihd (xAt l j) pc pp true y.w (e4.later y.h) (hp j hlt))
       have AT := hide (all_take l (okF d true) j (by omega))
       have AP := hide (fun h => all_part (f := okF d true) (show j < l.length by omega) h)
       clear e0 e1 e2 e3 e4 hpc ihd hp
       unfold Ex.cs at HE
       generalize okF d true (xAt l j) = q at *
       generalize (xAt l j).s = ss at *
       generalize (xAt l j).k = kk at *
       generalize (xAt l j).n = nn at *
       generalize (xAt l j).l.length = ll at *
       cases q with
       | false =>
        have EF := hide ((uh HT).symm.trans (uh AP rfl))
        go_wp2_with (go_at_call 127; refine (Sub.call (uh HZ) (uh HE _)).mono ?_; rintro r _ ⟨rfl, z2, rfl⟩)
        go_ret
        exact ⟨by rw [uh EF]; rfl, uh HB _⟩
       | true =>
        go_wp2_with (go_at_call 127; refine (Sub.call (uh HZ) (uh HE _)).mono ?_; rintro r _ ⟨rfl, z2, rfl⟩)
        go_roundw
        case rel => exact ⟨j + 1, z2, by omega, by go_num, by rw [uh AT, uh HD]; rfl, rfl⟩
        case measure => simp [intOf]; omega
      ·
       obtain rfl : j = len := by omega
       have EF := hide ((uh HT).symm.trans ((show l.all (okF d true) = (l.take j).all (okF d true) by rw [← hl, List.take_length]).trans (uh HD)))
       go_wp2
       go_ret
       exact ⟨by rw [uh EF]; rfl, uh HB _⟩
theorem plainS_any (e : Ex) (b : Option Addr) (cap : Nat) (w : World) (hr : RdX w 0 e b) (hz : e.sz ≤ 1048576) : Calls Tryz.prog 63 #[.agg (e.cs b cap)] w fun r w' => r = .returned (.bool (okF 6 true e)) ∧ Below w.heap.size w w' := by
 have B0 := below_new w (.cells (e.cs b cap) 26)
 have H := (okS_all 6 (by omega) e b cap true _ (hr.later B0) hz).mono (R' := fun r w' => r = .returned (.bool (okF 6 true e)) ∧ Below w.heap.size w w') (fun r w' h => ⟨h.1, B0.trans (h.2.mono B0.size)⟩)
 rw [show (7 : Int) - ((6 : Nat) : Int) = 1 by omega] at H
 have HH := hide H
 clear H hr B0
 unfold Ex.cs at HH ⊢
 generalize okF 6 true e = q at *
 generalize e.l.length = ll at *
 go_enter Tryz.func63, Tryz.ntmps63
 go_wp2_with (go_at_call 127; refine (uh HH).mono ?_; rintro r w1 ⟨rfl, hb1⟩)
 go_ret
 exact ⟨rfl, hb1⟩
theorem infoT : (Tryz.prog.info? 71).map (fun i => (i.zero, i.size, i.bytes)) = some (some (.agg #[.int .i64 0, .int .i64 0, .string ⟨#[]⟩]), 3, 32) := by kernel_rfl
theorem info5b : (Tryz.prog.info? 5).map (fun i => (i.zero, i.size, i.bytes)) = some (some (.int .u8 0), 1, 1) := by kernel_rfl
theorem size48 : (Tryz.prog.info? 101).map (·.size) = some 2 := by kernel_rfl
theorem lies48 : liesAt Tryz.prog Tryz.prog.depth 101 (2 / Tryz.prog.cellsOf 101) 0 101 1 = true := by kernel_rfl
theorem cells5 : Tryz.prog.cellsOf 5 = 1 := by kernel_rfl
def Bd (w : World) (B b : Nat) (bs : List UInt8) : Prop := Lib.IsBuilder 101 5 B b (cellsB bs) w
def Kp (w w' : World) : Prop := ∀ (g : Nat) (c : Array Value) (t : TypeId) (fz : Nat × Nat), w.heap[g]? = some (Obj.cells c t fz) → t ≠ 5 → t ≠ 101 → w'.heap[g]? = w.heap[g]?
theorem Kp.refl (w : World) : Kp w w := fun _ _ _ _ _ _ _ => rfl
theorem Kp.trans {a b c : World} (h : Kp a b) (k : Kp b c) : Kp a c := fun g x t fz e h1 h2 => (k g x t fz ((h g x t fz e h1 h2).trans e) h1 h2).trans (h g x t fz e h1 h2)
theorem Kp.set {w : World} {b j : Nat} {c : Array Value} {fz : Nat × Nat} (hb : w.heap[b]? = some (.cells c 101 fz)) (u : Value) : Kp w (w.setCell ⟨b, j, none⟩ u) := fun g x t fz' e h1 h2 =>
 Below.heap_setCell _ _ _ _ (fun (hg : g = b) => by subst hg; rw [hb] at e; cases e; exact h2 rfl)
theorem Kp.grown {w w1 w2 : World} {B n : Nat} {v : Value} {L : List Value} (h1 : Below w.heap.size w w1) (hown : w.ownsRow B 5 1 v n L) (hg : w1.grownBy w2 v.ownBlock) : Kp w w2 := fun g x t fz e h2 h3 => by
 have hl := (Array.getElem?_eq_some_iff.1 e).1
 refine (hg.block g (Nat.lt_of_lt_of_le hl h1.size) (fun he => ?_)).trans (h1.block g hl)
 obtain ⟨_, ⟨rfl, _⟩ | ⟨g', cap, cur, rfl, _, hh, _⟩⟩ := hown
 · simp [Value.ownBlock] at he
 ·
  simp [Value.ownBlock] at he
  subst he
  rw [hh] at e
  cases e
  exact h2 rfl
set_option maxRecDepth 100000 in
theorem copyC (B b : Nat) (bs : List UInt8) (w : World) (h : Bd w B b bs) :
  Calls Tryz.prog 140 #[.pointer (some ⟨b, 0, none⟩)] w fun e w' => e = .returned (.tuple #[]) ∧ Lib.BuilderAt 101 5 B b (.pointer (some ⟨b, 0, none⟩)) (cellsB bs) w' ∧ Below B w w' ∧ Kp w w' := by
 obtain ⟨j, hj, hjs⟩ := Option.map_eq_some_iff.1 size48
 rcases h with h | h
 ·
  have c0 := h.cell0
  have f0 := h.frozen0
  have E1 := Lib.run_to_unsafe (P := Tryz.prog) w ⟨b, 0, none⟩ Tryz.underlying99 Tryz.underlying221 hj (by rw [hjs]; decide) h.shape (Nat.zero_lt_succ 1)
  have E3 := Lib.run_from_unsafe (P := Tryz.prog) w ⟨b, 0, none⟩ Tryz.underlying221 Tryz.underlying99 hj h.shape lies48
  have E2 : (callFunc 187 #[.pointer (some ⟨b, 0, none⟩)]).run Tryz.prog w = .ok (.value (.pointer (some ⟨b, 0, none⟩))) w := by
   rw [run_callFunc_extern Tryz.func187 (by kernel_rfl) (by kernel_rfl) (by kernel_rfl) (e := Extern.AbiNoEscape.same) (by kernel_rfl), Lib.run_noEscape]
   rfl
  have HU := hide (h.used (.pointer (some ⟨b, 0, none⟩)))
  have HB := hide ((Below.refl B w).setCell (p := ⟨b, 0, none⟩) h.1 (.pointer (some ⟨b, 0, none⟩)))
  have HKP := hide (show Kp w (w.setCell ⟨b, 0, none⟩ (.pointer (some ⟨b, 0, none⟩))) from by obtain ⟨_, v, hbk, _⟩ := h; exact Kp.set hbk _)
  clear h
  go_enter Tryz.func140, Tryz.ntmps140
  go_wp2
  go_end0
  exact ⟨rfl, uh HU, uh HB, uh HKP⟩
 ·
  have c0 := h.cell0
  have E1 := Lib.run_neq_ptr_same (P := Tryz.prog) w ⟨b, 0, none⟩ Tryz.underlying99 hj
  have HU := hide h
  clear h
  go_enter Tryz.func140, Tryz.ntmps140
  go_wp2
  go_end0
  exact ⟨rfl, uh HU, Below.refl _ _, Kp.refl _⟩
theorem ownsRow_slice {w : World} {B : Nat} {v : Value} {n : Nat} {L : List Value} (h : w.ownsRow B 5 1 v n L) : ∃ a cap, v = .slice a n cap := by
 obtain ⟨_, ⟨h1, h2⟩ | ⟨g, cap, cur, e, _⟩⟩ := h
 · exact ⟨none, 0, by rw [h1, h2]⟩
 · exact ⟨_, cap, e⟩
theorem ownsRow_other {w : World} {B b : Nat} {v : Value} {n : Nat} {L : List Value} {c : Array Value} {t : TypeId} {fz : Nat × Nat} (h : w.ownsRow B 5 1 v n L) (hb : w.heap[b]? = some (.cells c t fz)) (ht : t ≠ 5) : v.ownBlock ≠ some b := by
 intro e
 obtain ⟨_, ⟨rfl, _⟩ | ⟨g, cap, cur, rfl, _, hh, _⟩⟩ := h
 · simp [Value.ownBlock] at e
 ·
  simp [Value.ownBlock] at e
  subst e
  rw [hh] at hb
  cases hb
  exact ht rfl
theorem ownsRow_keep {w w' : World} {B : Nat} {v : Value} {n : Nat} {L : List Value} (h : w.ownsRow B 5 1 v n L) (hs : ∀ g, v.ownBlock = some g → w'.heap[g]? = w.heap[g]?) : w'.ownsRow B 5 1 v n L := by
 obtain ⟨h1, h2 | ⟨g, cap, cur, rfl, hg, hh, r⟩⟩ := h
 · exact ⟨h1, .inl h2⟩
 · exact ⟨h1, .inr ⟨g, cap, cur, rfl, hg, (hs g rfl).trans hh, r⟩⟩
set_option maxRecDepth 100000 in
theorem writeB (B b : Nat) (bs : List UInt8) (c : UInt8) (w : World) (h : Bd w B b bs) (hlen : bs.length ≤ 16777216) (hBw : B ≤ w.heap.size) :
  Calls Tryz.prog 82 #[.pointer (some ⟨b, 0, none⟩), .int .u8 (c.toNat : Int)] w fun e w' => e = .returned .nilIface ∧ Bd w' B b (bs ++ [c]) ∧ Below B w w' ∧ Kp w w' := by
 obtain ⟨i0, hi, hz0, hz1, hz2⟩ := info_parts info5b
 obtain ⟨y, hy⟩ : ∃ y : Int, (c.toNat : Int) = y := ⟨_, rfl⟩
 have HC := hide (show cellsB bs ++ [Value.int .u8 y] = cellsB (bs ++ [c]) by rw [← hy]; simp [cellsB])
 rw [hy]
 clear hy
 go_enter Tryz.func82, Tryz.ntmps82
 go_wp2_with fail
 refine (copyC B b bs w h).mono ?_
 rintro e w1 ⟨rfl, ⟨hB, v, hbk, hown, hne⟩, hb1, hkp1⟩
 have KP1 := hide hkp1
 rw [cellsB_length] at hown
 have c1 : w1.cell? ⟨b, 1, none⟩ = some v := by rw [Lib.cell_of_heap hbk]; rfl
 have s1 := hb1.size
 have HO := hide hown
 have HK := hide hbk
 have HB1 := hide hb1
 have HNE := hide hne
 have hbl : b < w1.heap.size := (Array.getElem?_eq_some_iff.1 hbk).1
 have K1 := hide (cell_one_new w1 (Value.int .u8 y) 5)
 clear h hown hbk hb1 hne hkp1
 go_wp2_with (at_builtin; go_must (refine wpList_append_own _ rfl (.tmp 11) (.tmp 13) 22 rfl B 5 i0 (.int .u8 0) 1 1 Tryz.underlying22 hi hz0 hz1 hz2 rfl (by decide) v bs.length (cellsB bs) rfl ((uh HO).alloc _) ⟨w1.heap.size, 0, none⟩ 1 1 [Value.int .u8 y] rfl rfl (uh K1) (by intro u hu; simp at hu; subst hu; rfl) (by unfold maxLen; omega) (by omega) (by simp; omega) ?_; intro v2 w2 hown2 hgrow2 _; obtain ⟨a2, cp2, hv2⟩ := ownsRow_slice hown2; subst hv2; have hbk2 : w2.heap[b]? = some (.cells #[.pointer (some ⟨b, 0, none⟩), v] 101 (0, 0)) := (hgrow2.block b (by simp; omega) (fun e => (uh HNE) e.symm)).trans ((((Below.refl w1.heap.size w1).alloc (Nat.le_refl _) (Obj.cells #[Value.int .u8 y] 5)).block b hbl).trans (uh HK)); have c2 : w2.cell? ⟨b, 1, none⟩ = some v := (by rw [Lib.cell_of_heap hbk2]; rfl); have f2 : w2.frozen? ⟨b, 1, none⟩ = false := (by simp [World.frozen?, hbk2])))
 rw [uh HC] at hown2
 have hB2 : Below B w w2 := (((uh HB1).alloc (by omega) _)).grown hgrow2 (by simp; omega) (fun k h => ((uh HO).lt k h).1)
 go_ret
 refine ⟨rfl, .inr ⟨hB, .slice a2 (bs.length + 1) cp2, ?_, ?_, ?_⟩, hB2.setCell (p := ⟨b, 1, none⟩) hB _, (uh KP1).trans ((Kp.grown ((Below.refl w1.heap.size w1).alloc (Nat.le_refl _) _) (uh HO) hgrow2).trans (Kp.set hbk2 _))⟩
 · simp [World.setCell, Array.getElem?_modify, hbk2]
 ·
  rw [cellsB_length, List.length_append]
  exact ownsRow_keep hown2 fun g hg => Below.heap_setCell _ _ _ _ (fun e => ownsRow_other hown2 hbk2 (by decide) (by rw [hg, e]))
 · exact ownsRow_other hown2 hbk2 (by decide)
set_option maxRecDepth 100000 in
theorem strB (B b : Nat) (bs : List UInt8) (w : World) (h : Bd w B b bs) (h0 : bs ≠ []) :
  Calls Tryz.prog 83 #[.pointer (some ⟨b, 0, none⟩)] w fun e w' => e = .returned (.string (strOf bs)) ∧ Below B w w' := by
 obtain ⟨p, hB, v, hbk, hown, hne⟩ : ∃ p, Lib.BuilderAt 101 5 B b p (cellsB bs) w := h.elim (fun x => ⟨_, x⟩) (fun x => ⟨_, x⟩)
 rw [cellsB_length] at hown
 have hl0 : bs.length ≠ 0 := by simpa using h0
 have hO : OwnB w B v bs := hown
 obtain ⟨_, ⟨_, hz⟩ | ⟨g, cap, cur, rfl, hbg, hg, hnc, hcm, hcs, htake⟩⟩ := hown
 · exact absurd hz hl0
 unfold maxLen at hcm
 have c1 : w.drew.cell? ⟨b, 1, none⟩ = some (.slice (some ⟨g, 0, none⟩) bs.length cap) := by
  have : w.drew.heap[b]? = some (.cells #[p, .slice (some ⟨g, 0, none⟩) bs.length cap] 101 (0, 0)) := hbk
  rw [Lib.cell_of_heap this]; rfl
 have hSD : (Builtin.unsafeSliceData_ #[22] 169 #[.slice (some ⟨g, 0, none⟩) bs.length cap]).run Tryz.prog w.drew = .ok (.pointer (some ⟨g, 0, none⟩)) w.drew := Lib.run_unsafeSliceData_row _ _ _ _ _ _ (by omega)
 have hUS : (Builtin.unsafeString_ #[169, 3] 9 #[.pointer (some ⟨g, 0, none⟩), .int .i64 bs.length]).run Tryz.prog w.drew = .ok (.string (strOf bs)) (w.drew.freeze ⟨g, 0, none⟩ bs.length) := by
  refine Lib.run_unsafeString_row w.drew 169 3 9 5 Tryz.underlying169 cells5 g cur.size (by have hg' : w.drew.heap[g]? = some (.cells cur 5 (0, 0)) := hg; simp [World.shape?, hg']) bs h0 (by omega) (by omega) ?_
  intro j x hx
  exact rd_cells hO.rd1 j (.int .u8 x.toNat) (by simp [cellsB, hx])
 have HB := hide (Lib.below_freeze (Below.drew (Below.refl B w)) (p := ⟨g, 0, none⟩) hbg bs.length)
 clear hbk hg htake hO h
 go_enter Tryz.func83, Tryz.ntmps83
 go_wp2
 go_region
 all_goals go_wp2
 all_goals go_ret
 all_goals exact ⟨rfl, uh HB⟩
set_option maxRecDepth 100000 in
theorem writeS (B b : Nat) (bs ts : List UInt8) (w : World) (h : Bd w B b bs) (hlen : bs.length ≤ 16777216) (htl : ts.length ≤ 16777216) (hBw : B ≤ w.heap.size) :
  Calls Tryz.prog 81 #[.pointer (some ⟨b, 0, none⟩), .string (strOf ts)] w fun e w' => (∃ v, e = .returned v) ∧ Bd w' B b (bs ++ ts) ∧ Below B w w' ∧ Kp w w' := by
 obtain ⟨i0, hi, hz0, hz1, hz2⟩ := info_parts info5b
 obtain ⟨s, hs⟩ : ∃ s, s = strOf ts := ⟨_, rfl⟩
 have hz : s.size = ts.length := by rw [hs, strOf_size]
 have HC := hide (show cellsB bs ++ Lib.strCells s = cellsB (bs ++ ts) by rw [cellsB_append, hs]; rfl)
 rw [← hs]
 clear hs
 go_enter Tryz.func81, Tryz.ntmps81
 go_wp2_with fail
 refine (copyC B b bs w h).mono ?_
 rintro e w1 ⟨rfl, ⟨hB, v, hbk, hown, hne⟩, hb1, hkp1⟩
 have KP1 := hide hkp1
 rw [cellsB_length] at hown
 have c1 : w1.cell? ⟨b, 1, none⟩ = some v := by rw [Lib.cell_of_heap hbk]; rfl
 have s1 := hb1.size
 have HO := hide hown
 have HK := hide hbk
 have HB1 := hide hb1
 have HNE := hide hne
 have hbl : b < w1.heap.size := (Array.getElem?_eq_some_iff.1 hbk).1
 clear h hown hbk hb1 hne hkp1
 go_wp2_with (at_builtin; go_must (refine Lib.wpList_append_own_string _ rfl _ _ 22 9 rfl B 5 i0 Tryz.underlying22 Tryz.underlying9 hi hz0 hz1 hz2 v bs.length (cellsB bs) rfl (uh HO) s rfl (by unfold maxLen; omega) (by omega) (by omega) ?_; intro v2 w2 hown2 hgrow2 _; obtain ⟨a2, cp2, hv2⟩ := ownsRow_slice hown2; subst hv2; have hbk2 : w2.heap[b]? = some (.cells #[.pointer (some ⟨b, 0, none⟩), v] 101 (0, 0)) := (hgrow2.block b hbl (fun e => (uh HNE) e.symm)).trans (uh HK); have c2 : w2.cell? ⟨b, 1, none⟩ = some v := (by rw [Lib.cell_of_heap hbk2]; rfl); have f2 : w2.frozen? ⟨b, 1, none⟩ = false := (by simp [World.frozen?, hbk2])))
 rw [uh HC] at hown2
 have hB2 : Below B w w2 := (uh HB1).grown hgrow2 (by omega) (fun k h => ((uh HO).lt k h).1)
 go_ret2
 refine ⟨⟨_, rfl⟩, .inr ⟨hB, .slice a2 (bs.length + s.size) cp2, ?_, ?_, ?_⟩, hB2.setCell (p := ⟨b, 1, none⟩) hB _, (uh KP1).trans ((Kp.grown (Below.refl _ _) (uh HO) hgrow2).trans (Kp.set hbk2 _))⟩
 ·
  simp [World.setCell, Array.getElem?_modify, hbk2]
  exact hz.symm
 ·
  rw [cellsB_length, List.length_append, ← hz]
  exact ownsRow_keep hown2 fun g hg => Below.heap_setCell _ _ _ _ (fun e => ownsRow_other hown2 hbk2 (by decide) (by rw [hg, e]))
 · exact ownsRow_other hown2 hbk2 (by decide)
theorem row_ltT {w : World} {g : Nat} {o : Obj} (h : w.heap[g]? = some o) : g < w.heap.size := (Array.getElem?_eq_some_iff.1 h).1
theorem row_latT {w w' : World} {g : Nat} {o : Obj} (h : w.heap[g]? = some o) (hb : Below w.heap.size w w') : w'.heap[g]? = some o := (hb.block g (row_ltT h)).trans h
theorem bd_later {w w' : World} {B b : Nat} {bs : List UInt8} (h : Bd w B b bs) (hb : Below w.heap.size w w') : Bd w' B b bs := by
 have key : ∀ p, Lib.BuilderAt 101 5 B b p (cellsB bs) w → Lib.BuilderAt 101 5 B b p (cellsB bs) w' := fun p ⟨h1, v, h2, h3, h4⟩ =>
  ⟨h1, v, row_latT h2 hb, ownsRow_keep h3 fun g hg => hb.block g ((h3.lt g hg).2), h4⟩
 exact h.elim (fun x => .inl (key _ x)) (fun x => .inr (key _ x))
theorem bd_new (w : World) (B : Nat) (hB : B ≤ w.heap.size) : Bd (w.alloc (.cells #[.pointer none, .slice none 0 0] 101)) B w.heap.size [] :=
 .inl ⟨hB, .slice none 0 0, heap_alloc_new w _, ⟨rfl, .inl ⟨rfl, rfl⟩⟩, by simp [Value.ownBlock]⟩
set_option maxRecDepth 100000 in
theorem strB0 (B b : Nat) (w : World) (h : Bd w B b []) (hBw : B ≤ w.heap.size) :
  Calls Tryz.prog 83 #[.pointer (some ⟨b, 0, none⟩)] w fun e w' => e = .returned (.string (strOf [])) ∧ Below B w w' := by
 obtain ⟨p, hB, v, hbk, hown, hne⟩ : ∃ p, Lib.BuilderAt 101 5 B b p (cellsB []) w := h.elim (fun x => ⟨_, x⟩) (fun x => ⟨_, x⟩)
 have hUS : ∀ q W, (Builtin.unsafeString_ #[169, 3] 9 #[.pointer q, .int .i64 0]).run Tryz.prog W = .ok (.string (strOf [])) W := fun q W => Lib.run_unsafeString_none W 169 3 9 q
 have HB := hide (Below.drew (Below.refl B w))
 obtain ⟨_, ⟨rfl, _⟩ | ⟨g, cap, cur, rfl, hbg, hg, hnc, hcm, hcs, htake⟩⟩ := hown
 ·
  have c1 : w.drew.cell? ⟨b, 1, none⟩ = some (.slice none 0 0) := by
   have : w.drew.heap[b]? = some (.cells #[p, .slice none 0 0] 101 (0, 0)) := hbk
   rw [Lib.cell_of_heap this]; rfl
  have hSD : (Builtin.unsafeSliceData_ #[22] 169 #[.slice none 0 0]).run Tryz.prog w.drew = .ok (.pointer none) w.drew := rfl
  have hUS' := hUS none w.drew
  generalize strOf [] = S0 at *
  clear hbk h hUS
  go_enter Tryz.func83, Tryz.ntmps83
  go_wp2
  go_region
  all_goals go_wp2
  all_goals go_ret
  all_goals exact ⟨rfl, uh HB⟩
 ·
  have c1 : w.drew.cell? ⟨b, 1, none⟩ = some (.slice (some ⟨g, 0, none⟩) 0 cap) := by
   have : w.drew.heap[b]? = some (.cells #[p, .slice (some ⟨g, 0, none⟩) 0 cap] 101 (0, 0)) := hbk
   rw [Lib.cell_of_heap this]; rfl
  by_cases hc0 : cap = 0
  ·
   subst hc0
   have hSD : (Builtin.unsafeSliceData_ #[22] 169 #[.slice (some ⟨g, 0, none⟩) 0 0]).run Tryz.prog w.drew = .ok (.pointer (some ⟨w.drew.heap.size, 0, none⟩)) (w.drew.alloc (.view ⟨g, 0, none⟩ 5)) := Lib.run_unsafeSliceData_zero w.drew #[22] 169 5 Tryz.underlying169 ⟨g, 0, none⟩ 0 (5, cur.size) (by have hg' : w.drew.heap[g]? = some (.cells cur 5 (0, 0)) := hg; simp [World.shape?, hg'])
   have hUS' := hUS (some ⟨w.heap.size, 0, none⟩) (w.alloc (.view ⟨g, 0, none⟩ 5)).drew
   have c1b : (w.alloc (.view ⟨g, 0, none⟩ 5)).cell? ⟨b, 1, none⟩ = some (.slice (some ⟨g, 0, none⟩) 0 0) := by
    rw [World.cell?_alloc_past _ _ _ (row_ltT hbk)]; exact c1
   have HB2 := hide (((Below.refl B w).alloc hBw (.view ⟨g, 0, none⟩ 5)).drew)
   generalize strOf [] = S0 at *
   clear hbk h hUS hg
   go_enter Tryz.func83, Tryz.ntmps83
   go_wp2
   go_region
   all_goals go_wp2
   all_goals go_ret
   all_goals exact ⟨rfl, uh HB2⟩
  ·
   have hSD : (Builtin.unsafeSliceData_ #[22] 169 #[.slice (some ⟨g, 0, none⟩) 0 cap]).run Tryz.prog w.drew = .ok (.pointer (some ⟨g, 0, none⟩)) w.drew := Lib.run_unsafeSliceData_row _ _ _ _ _ _ hc0
   have hUS' := hUS (some ⟨g, 0, none⟩) w.drew
   generalize strOf [] = S0 at *
   clear hbk h hUS hg
   go_enter Tryz.func83, Tryz.ntmps83
   go_wp2
   go_region
   all_goals go_wp2
   all_goals go_ret
   all_goals exact ⟨rfl, uh HB⟩
theorem strAny (B b : Nat) (bs : List UInt8) (w : World) (h : Bd w B b bs) (hBw : B ≤ w.heap.size) :
  Calls Tryz.prog 83 #[.pointer (some ⟨b, 0, none⟩)] w fun e w' => e = .returned (.string (strOf bs)) ∧ Below B w w' := by
 by_cases h0 : bs = []
 · subst h0; exact strB0 B b w h hBw
 · exact strB B b bs w h h0
section
structure Lo (w wr : World) (bs : List UInt8) : Prop where
 bel : Below w.heap.size w wr
 bd : Bd wr w.heap.size w.heap.size bs
 sz : w.heap.size ≤ wr.heap.size
section
variable {w wr w' : World} {bs cs : List UInt8}
theorem Lo.next (h : Lo w wr bs) (hb : Below w.heap.size wr w') (k : Bd w' w.heap.size w.heap.size cs) : Lo w w' cs := ⟨h.bel.trans hb, k, Nat.le_trans h.sz hb.size⟩
theorem Lo.later (h : Lo w wr bs) (hb : Below wr.heap.size wr w') : Lo w w' bs := h.next (hb.mono h.sz) (bd_later h.bd hb)
end
theorem lo_new (w : World) : Lo w (w.alloc (.cells #[.pointer none, .slice none 0 0] 101)) [] :=
 ⟨below_new w _, bd_new w w.heap.size (Nat.le_refl _), by simp⟩
theorem tri_cells {W : World} {g : Nat} {t : Tk} {ty : TypeId} (h : W.heap[g]? = some (.cells t.cs ty (0, 0))) : W.cell? ⟨g, 0, none⟩ = some (.int .i64 t.k) ∧ W.cell? ⟨g, 1, none⟩ = some (.int .i64 t.n) ∧ W.cell? ⟨g, 2, none⟩ = some (.string t.s) :=
 ⟨Lib.cell_of_heap h 0, Lib.cell_of_heap h 1, Lib.cell_of_heap h 2⟩
theorem lineI_any (a : Option Addr) (len cap : Nat) (ts : List Tk) (w : World) (hl : ts.length = len) (hm : len + szL ts ≤ 1048576) (hr : RdT w a ts) (hg : w.cell? ⟨11, 7, none⟩ = some (.int .u8 3)) : Calls Tryz.prog 45 #[.slice a len cap] w fun e w' => e = .returned (.string (strOf (lineOf ts))) ∧ Below w.heap.size w w' := by
 unfold lineOf
 rw [hl]
 have O0 := hide (lo_new w)
 have gl : 11 < w.heap.size := World.block_lt_of_cell? w _ hg
 have TB := hide (fun wr (h : Below w.heap.size w wr) => (h.cell (p := ⟨11, 7, none⟩) gl).trans hg)
 clear hg gl
 go_enter Tryz.func45, Tryz.ntmps45
 go_wp2
 go_loopw [8] (fun i wr => ∃ k : Nat, k ≤ len ∧ i = .int .i64 k ∧ Lo w wr (lineT ts k)) (fun i _ => len - (intOf i).toNat)
 case atStart => exact ⟨0, Nat.zero_le _, rfl, uh O0⟩
 case round =>
  clear O0
  obtain ⟨k, hk, rfl, ho⟩ := hrel
  have O1 := hide ho
  by_cases hlt : k < len
  ·
   rcases hr with h0 | ⟨b, off, rfl, hbl, hc⟩
   · rw [h0] at hl; simp at hl; omega
   obtain ⟨c0, c1, c2⟩ := hc k (by omega)
   have d0 : wr.cell? ⟨b, off + k * 3, none⟩ = _ := (ho.bel.cell (p := ⟨b, _, none⟩) hbl).trans c0
   have d1 : wr.cell? ⟨b, off + k * 3 + 1, none⟩ = _ := (ho.bel.cell (p := ⟨b, _, none⟩) hbl).trans c1
   have d2 : wr.cell? ⟨b, off + k * 3 + 2, none⟩ = _ := (ho.bel.cell (p := ⟨b, _, none⟩) hbl).trans c2
   have LB := hide (show (lineT ts k).length ≤ 8388608 by
    have := lineT_len ts k (by omega)
    have := szL_le ts k
    omega)
   have hz3 : (tAt ts k).s.size ≤ 1048576 := by have := szL_at ts k (by omega); omega
   have LT := hide (show lineT ts (k + 1) = lineT ts k ++ (if k = 0 then [] else [32]) ++ tokL (tAt ts k) from rfl)
   have TL := hide (show tokL (tAt ts k) = if (tAt ts k).k = 2 then octD ((tAt ts k).n % 65536).toNat else (tAt ts k).s.data.toList from rfl)
   have O6 := hide (octD_six (tAt ts k).n)
   rw [uh TL] at LT
   -- the box
   have O2 := hide (ho.later (below_new wr (.cells (tAt ts k).cs 71)))
   have R2 := hide (heap_alloc_new wr (.cells (tAt ts k).cs 71))
   have OC := hide (fun w2 (h : Below w.heap.size w w2) => octI_any (tAt ts k).n w2 (uh TB w2 h))
   generalize lineT ts k = bs at *
   generalize hts : tAt ts k = t at *
   obtain ⟨kk, nn, ss⟩ := t
   unfold Tk.cs at O2 R2
   simp only at d0 d1 d2 hz3 LT O2 R2 OC O6
   generalize octD (nn % 65536).toNat = ds at *
   clear c0 c1 c2 hc ho TL hts
   by_cases hk0 : k = 0
   ·
    have hg0 : decide (0 < k) = false := decide_eq_false (by omega)
    have LT0 := hide (show lineT ts (k + 1) = bs ++ (if kk = 2 then ds else ss.data.toList) by have := uh LT; rw [if_pos hk0, List.append_nil] at this; exact this)
    clear hk0 LT
    by_cases hk2 : kk = 2
    ·
     subst hk2
     have LT1 := hide (show lineT ts (k + 1) = bs ++ ds from uh LT0)
     clear LT0
     have OC1 := hide (uh OC _ (uh O2).bel)
     go_wp2_with fail
     refine (uh OC1).mono ?_
     rintro e w5 ⟨rfl, hb5⟩
     have O5 := hide ((uh O2).later hb5)
     have WS := hide (writeS w.heap.size w.heap.size bs ds w5 (uh O5).bd (by have := uh LB; omega) (by have := uh O6; omega) (uh O5).sz)
     clear hb5 OC1
     go_wp2_with fail
     refine (uh WS).mono ?_
     rintro e w6 ⟨⟨v6, rfl⟩, k6, hb6, _⟩
     have O7 := hide ((uh O5).next hb6 k6)
     rw [← uh LT1] at O7
     clear hb6 k6 WS O5
     go_wp2
     go_roundw
     case rel => exact ⟨k + 1, by omega, by go_num, uh O7⟩
     case measure => simp [intOf]; omega
    ·
     have LT1 := hide (show lineT ts (k + 1) = bs ++ ss.data.toList from (uh LT0).trans (by rw [if_neg hk2]))
     clear LT0 OC
     have WS := hide (writeS w.heap.size w.heap.size bs ss.data.toList (wr.alloc (.cells #[.int .i64 kk, .int .i64 nn, .string ss] 71)) (uh O2).bd (by have := uh LB; omega) (by rw [size_len]; omega) (uh O2).sz)
     rw [strOf_of] at WS
     go_wp2_with fail
     refine (uh WS).mono ?_
     rintro e w6 ⟨⟨v6, rfl⟩, k6, hb6, _⟩
     have O7 := hide ((uh O2).next hb6 k6)
     rw [← uh LT1] at O7
     clear hb6 k6 WS
     go_wp2
     go_roundw
     case rel => exact ⟨k + 1, by omega, by go_num, uh O7⟩
     case measure => simp [intOf]; omega
   ·
    have hg0 : (0 : Int) < (k : Int) := by omega
    have LT0 := hide (show lineT ts (k + 1) = (bs ++ [32]) ++ (if kk = 2 then ds else ss.data.toList) by have := uh LT; rw [if_neg hk0] at this; exact this)
    clear hk0 LT
    have WB := hide (writeB w.heap.size w.heap.size bs 32 (wr.alloc (.cells #[.int .i64 kk, .int .i64 nn, .string ss] 71)) (uh O2).bd (by have := uh LB; omega) (uh O2).sz)
    go_wp2_with fail
    refine (uh WB).mono ?_
    rintro e w3 ⟨rfl, k3, hb3, kp3⟩
    have R3 := (kp3 _ _ _ _ (uh R2) (by decide) (by decide)).trans (uh R2)
    obtain ⟨c0, c1, c2⟩ := tri_cells (t := ⟨kk, nn, ss⟩) R3
    simp only at c0 c1 c2
    have O3 := hide ((uh O2).next hb3 k3)
    clear hb3 k3 kp3 R3 R2 O2 WB d0 d1 d2
    by_cases hk2 : kk = 2
    ·
     subst hk2
     have LT1 := hide (show lineT ts (k + 1) = (bs ++ [32]) ++ ds from uh LT0)
     clear LT0
     have OC1 := hide (uh OC _ (uh O3).bel)
     go_wp2_with fail
     refine (uh OC1).mono ?_
     rintro e w5 ⟨rfl, hb5⟩
     have O5 := hide ((uh O3).later hb5)
     have WS := hide (writeS w.heap.size w.heap.size (bs ++ [32]) ds w5 (uh O5).bd (by have := uh LB; rw [List.length_append]; have h1 : [(32 : UInt8)].length = 1 := rfl; omega) (by have := uh O6; omega) (uh O5).sz)
     clear hb5 OC1
     go_wp2_with fail
     refine (uh WS).mono ?_
     rintro e w6 ⟨⟨v6, rfl⟩, k6, hb6, _⟩
     have O7 := hide ((uh O5).next hb6 k6)
     rw [← uh LT1] at O7
     clear hb6 k6 WS O5
     go_wp2
     go_roundw
     case rel => exact ⟨k + 1, by omega, by go_num, uh O7⟩
     case measure => simp [intOf]; omega
    ·
     have LT1 := hide (show lineT ts (k + 1) = (bs ++ [32]) ++ ss.data.toList from (uh LT0).trans (by rw [if_neg hk2]))
     clear LT0 OC
     have WS := hide (writeS w.heap.size w.heap.size (bs ++ [32]) ss.data.toList w3 (uh O3).bd (by have := uh LB; rw [List.length_append]; have h1 : [(32 : UInt8)].length = 1 := rfl; omega) (by rw [size_len]; omega) (uh O3).sz)
     rw [strOf_of] at WS
     go_wp2_with fail
     refine (uh WS).mono ?_
     rintro e w6 ⟨⟨v6, rfl⟩, k6, hb6, _⟩
     have O7 := hide ((uh O3).next hb6 k6)
     rw [← uh LT1] at O7
     clear hb6 k6 WS
     go_wp2
     go_roundw
     case rel => exact ⟨k + 1, by omega, by go_num, uh O7⟩
     case measure => simp [intOf]; omega
  ·
   obtain rfl : k = len := by omega
   have SB := hide (strAny w.heap.size w.heap.size (lineT ts k) wr (uh O1).bd (uh O1).sz)
   go_wp2_with fail
   refine (uh SB).mono ?_
   rintro e w4 ⟨rfl, hb4⟩
   have HB := hide ((uh O1).bel.trans hb4)
   clear hb4 SB
   go_wp2
   go_ret
   exact ⟨rfl, uh HB⟩
end
theorem cell_new (W : World) (cs : Array Value) (t : TypeId) : ∀ j u, cs.toList[j]? = some u → (W.alloc (.cells cs t)).cell? ((⟨W.heap.size, 0, none⟩ : Addr).add j) = some u := by
 intro j u hu
 have h : (W.alloc (.cells cs t)).cell? ⟨W.heap.size, j, none⟩ = some u := by rw [World.cell?_alloc_at _ _ _ _ rfl]; simpa using hu
 unfold Addr.add
 by_cases h0 : j = 0
 · subst h0; simpa using h
 · simpa [h0] using h
theorem ownT_empty (w : World) (B : Nat) (hB : B ≤ w.heap.size) : OwnT (w.alloc (Obj.cells #[] 71)) B (.slice (some ⟨w.heap.size, 0, none⟩) 0 0) [] :=
 World.ownsRow_lit w #[] 0 hB (by decide) rfl
theorem ownT_none (w : World) (B : Nat) : OwnT w B (.slice none 0 0) [] := ⟨rfl, .inl ⟨rfl, rfl⟩⟩
theorem ownT_app {w' : World} {B : Nat} {v : Value} {ts : List Tk} {t : Tk} (h : w'.ownsRow B 71 3 v (ts.length + 1) (cellsT ts ++ [.int .i64 t.k, .int .i64 t.n, .string t.s])) : OwnT w' B v (ts ++ [t]) := by
 unfold OwnT
 rw [List.length_append, cellsT_app]
 exact h
theorem newT_one (k n : Int) (x : ByteArray) : ∀ u ∈ [Value.int .i64 k, .int .i64 n, .string x], u.oneCell' = true := by
 intro u hu
 simp only [List.mem_cons, List.not_mem_nil, or_false] at hu
 rcases hu with rfl | rfl | rfl <;> rfl
theorem markS_ex (x : ByteArray) (w : World) : Calls Tryz.prog 123 #[.string x] w fun e w' => e = .returned (Tk.v ⟨4, 0, x⟩) ∧ Below w.heap.size w w' := by
 have B0 := hide (below_new w (.cells T0c 71))
 have R0 := hide (heap_alloc_new w (.cells T0c 71))
 unfold T0c at B0 R0
 unfold Tk.v Tk.cs
 simp only
 go_enter Tryz.func123, Tryz.ntmps123
 go_wp2_with (first | (refine wpList_store_row rfl 71 _ _ rfl w.heap.size #[.int .i64 4, .int .i64 0, .string x] rfl rfl 71 _ (uh R0) szK rfl (tk_one _ _ _) ?_))
 refine bodyPost_ret (results_cell_row (P := Tryz.prog) rfl _ _ w.heap.size 71 #[.int .i64 4, .int .i64 0, .string x] (0, 0) _ rfl (setRow_heap _ _ _ _ _ _ (uh R0)) Tryz.underlying71 rfl szK) rfl ?_
 exact ⟨rfl, below_row (uh B0)⟩
theorem signS_any (k : Int) (hk : 5 ≤ k ∧ k ≤ 10) (w : World) : Calls Tryz.prog 183 #[.int .i64 k] w fun e w' => e = .returned (.string (mkS (sgnC k))) ∧ w' = w := by
 have : k = 5 ∨ k = 6 ∨ k = 7 ∨ k = 8 ∨ k = 9 ∨ k = 10 := by omega
 rcases this with rfl | rfl | rfl | rfl | rfl | rfl <;> (go_enter Tryz.func183, Tryz.ntmps183; go_wp2; go_ret; exact ⟨rfl, rfl⟩)
theorem OwnT.src {w : World} {B : Nat} {v : Value} {ts : List Tk} (h : OwnT w B v ts) (hts : ts ≠ []) : ∃ g c, v = .slice (some ⟨g, 0, none⟩) ts.length c ∧ ∀ j u, (cellsT ts)[j]? = some u → w.cell? ((⟨g, 0, none⟩ : Addr).add j) = some u := by
 rcases h.form with ⟨rfl, rfl⟩ | ⟨g, c, rfl, _⟩
 · exact absurd rfl hts
 ·
  refine ⟨g, c, rfl, fun j u hu => ?_⟩
  have hj : j < ts.length * 3 := by rw [← cellsT_len]; exact (List.getElem?_eq_some_iff.1 hu).1
  have := (World.ownsRow.cellAt h j hj).trans hu
  unfold Addr.add
  by_cases h0 : j = 0
  · subst h0; simpa using this
  · simpa [h0] using this
theorem ownT_join {w' : World} {B : Nat} {v : Value} {ts us : List Tk} (h : w'.ownsRow B 71 3 v (ts.length + us.length) (cellsT ts ++ cellsT us)) : OwnT w' B v (ts ++ us) := by
 unfold OwnT
 rw [List.length_append, cellsT_app]
 exact h
def ToksP (d : Nat) : Prop := ∀ (e : Ex) (b : Option Addr) (cap : Nat) (w : World), okF d true e = true → RdX w 0 e b → Calls Tryz.prog 126 #[.agg (e.cs b cap)] w fun r w' => ∃ v, r = .returned v ∧ OwnT w' w.heap.size v (toksF d e) ∧ Below w.heap.size w w'
theorem ownT_new (w : World) (t : Tk) (B : Nat) (hB : B ≤ w.heap.size) : OwnT (w.alloc (.cells t.cs 71)) B (.slice (some ⟨w.heap.size, 0, none⟩) 1 1) [t] :=
 ⟨rfl, .inr ⟨w.heap.size, 1, t.cs, rfl, hB, Array.getElem?_push_size, Nat.le_refl _, by unfold maxLen; omega, rfl, rfl⟩⟩
theorem toksS_num (n : Int) (s : ByteArray) (b : Option Addr) (cap : Nat) (w : World) : Calls Tryz.prog 126 #[.agg #[.int .i64 1, .int .i64 n, .string ⟨#[]⟩, .slice b 0 cap]] w fun r w' => ∃ v, r = .returned v ∧ OwnT w' w.heap.size v [⟨2, n, E0⟩] ∧ Below w.heap.size w w' := by
 have B0 := hide (below_new w (.cells #[.int .i64 1, .int .i64 n, .string ⟨#[]⟩, .slice b 0 cap] 26))
 have O1 := hide (ownT_new (w.alloc (.cells #[.int .i64 1, .int .i64 n, .string ⟨#[]⟩, .slice b 0 cap] 26)) ⟨2, n, E0⟩ w.heap.size (uh B0).size)
 have B1 := hide ((uh B0).alloc (uh B0).size (.cells (Tk.cs ⟨2, n, E0⟩) 71))
 rw [show (w.alloc (.cells #[.int .i64 1, .int .i64 n, .string ⟨#[]⟩, .slice b 0 cap] 26)).heap.size = w.heap.size + 1 by simp] at O1
 unfold Tk.cs at O1 B1
 try unfold E0 at O1 B1
 try unfold E0
 simp only at O1 B1
 go_enter Tryz.func126, Tryz.ntmps126
 go_wp2
 go_ret
 exact ⟨_, rfl, uh O1, uh B1⟩
theorem toksS_sym (n : Int) (s : ByteArray) (b : Option Addr) (cap : Nat) (w : World) : Calls Tryz.prog 126 #[.agg #[.int .i64 2, .int .i64 0, .string s, .slice b 0 cap]] w fun r w' => ∃ v, r = .returned v ∧ OwnT w' w.heap.size v [⟨1, 0, s⟩] ∧ Below w.heap.size w w' := by
 have B0 := hide (below_new w (.cells #[.int .i64 2, .int .i64 0, .string s, .slice b 0 cap] 26))
 have O1 := hide (ownT_new (w.alloc (.cells #[.int .i64 2, .int .i64 0, .string s, .slice b 0 cap] 26)) ⟨1, 0, s⟩ w.heap.size (uh B0).size)
 have B1 := hide ((uh B0).alloc (uh B0).size (.cells (Tk.cs ⟨1, 0, s⟩) 71))
 rw [show (w.alloc (.cells #[.int .i64 2, .int .i64 0, .string s, .slice b 0 cap] 26)).heap.size = w.heap.size + 1 by simp] at O1
 unfold Tk.cs at O1 B1
 try unfold E0 at O1 B1
 try unfold E0
 simp only at O1 B1
 go_enter Tryz.func126, Tryz.ntmps126
 go_wp2
 go_ret
 exact ⟨_, rfl, uh O1, uh B1⟩
theorem toksS_here (b : Option Addr) (cap : Nat) (w : World) : Calls Tryz.prog 126 #[.agg #[.int .i64 3, .int .i64 0, .string ⟨#[]⟩, .slice b 0 cap]] w fun r w' => ∃ v, r = .returned v ∧ OwnT w' w.heap.size v [mkT 46] ∧ Below w.heap.size w w' := by
 have B0 := hide (below_new w (.cells #[.int .i64 3, .int .i64 0, .string ⟨#[]⟩, .slice b 0 cap] 26))
 have MK := hide (markS_ex (mkS 46) (w.alloc (.cells #[.int .i64 3, .int .i64 0, .string ⟨#[]⟩, .slice b 0 cap] 26)))
 have ON := hide (fun w1 (h : w.heap.size ≤ w1.heap.size) => ownT_new w1 (mkT 46) w.heap.size h)
 unfold mkT mkS Tk.cs at ON
 unfold mkT
 unfold mkS Tk.v Tk.cs at MK
 unfold mkS
 simp only at ON MK
 go_enter Tryz.func126, Tryz.ntmps126
 go_wp2_with fail
 refine (uh MK).mono ?_
 rintro r w1 ⟨rfl, hb1⟩
 have B1 := hide ((uh B0).trans (hb1.mono (uh B0).size))
 have O1 := hide (uh ON w1 (uh B1).size)
 clear hb1 MK ON
 go_wp2
 go_ret
 exact ⟨_, rfl, uh O1, (uh B1).alloc (uh B1).size _⟩
theorem toksS_neg (c0 : Option Addr) (cp0 p po cap : Nat) (a : Ex) (ts : List Tk) (w : World) (hts : ts ≠ []) (h8 : ts.length ≤ 400) (hp : p < w.heap.size) (e0 : w.cell? ⟨p, po, none⟩ = some (.int .i64 a.k)) (e1 : w.cell? ⟨p, po + 1, none⟩ = some (.int .i64 a.n)) (e2 : w.cell? ⟨p, po + 2, none⟩ = some (.string a.s)) (e3 : w.cell? ⟨p, po + 3, none⟩ = some (.slice c0 a.l.length cp0)) (ih : ∀ w1, Below w.heap.size w w1 → Calls Tryz.prog 126 #[.agg (a.cs c0 cp0)] w1 fun r w' => ∃ v, r = .returned v ∧ OwnT w' w1.heap.size v ts ∧ Below w1.heap.size w1 w') : Calls Tryz.prog 126 #[.agg #[.int .i64 4, .int .i64 0, .string ⟨#[]⟩, .slice (some ⟨p, po, none⟩) 1 cap]] w fun r w' => ∃ v, r = .returned v ∧ OwnT w' w.heap.size v ([Tk.mk 4 0 ⟨#[45]⟩] ++ ts) ∧ Below w.heap.size w w' := by
 obtain ⟨W, hW⟩ : ∃ W, w.alloc (.cells #[.int .i64 4, .int .i64 0, .string ⟨#[]⟩, .slice (some ⟨p, po, none⟩) 1 cap] 26) = W := ⟨_, rfl⟩
 have B0 := hide (below_new w (.cells #[.int .i64 4, .int .i64 0, .string ⟨#[]⟩, .slice (some ⟨p, po, none⟩) 1 cap] 26))
 have hg : W.heap[w.heap.size]? = some (.cells #[.int .i64 4, .int .i64 0, .string ⟨#[]⟩, .slice (some ⟨p, po, none⟩) 1 cap] 26 (0, 0)) := by rw [← hW]; exact Array.getElem?_push_size
 rw [hW] at B0
 have x0 := Lib.cell_of_heap hg 0
 have xl : w.heap.size < W.heap.size := (Array.getElem?_eq_some_iff.1 hg).1
 have Y0 := hide (fun w1 (hb : Below W.heap.size W w1) => (hb.cell (p := ⟨w.heap.size, 0, none⟩) xl).trans (Lib.cell_of_heap hg 0))
 have Y3 := hide (fun w1 (hb : Below W.heap.size W w1) => (hb.cell (p := ⟨w.heap.size, 3, none⟩) xl).trans (Lib.cell_of_heap hg 3))
 have U0 := hide (fun w1 (hb : Below W.heap.size W w1) => (hb.cell (p := ⟨p, po, none⟩) (Nat.lt_trans hp xl)).trans (((uh B0).cell (p := ⟨p, po, none⟩) hp).trans e0))
 have U1 := hide (fun w1 (hb : Below W.heap.size W w1) => (hb.cell (p := ⟨p, po + 1, none⟩) (Nat.lt_trans hp xl)).trans (((uh B0).cell (p := ⟨p, po + 1, none⟩) hp).trans e1))
 have U2 := hide (fun w1 (hb : Below W.heap.size W w1) => (hb.cell (p := ⟨p, po + 2, none⟩) (Nat.lt_trans hp xl)).trans (((uh B0).cell (p := ⟨p, po + 2, none⟩) hp).trans e2))
 have U3 := hide (fun w1 (hb : Below W.heap.size W w1) => (hb.cell (p := ⟨p, po + 3, none⟩) (Nat.lt_trans hp xl)).trans (((uh B0).cell (p := ⟨p, po + 3, none⟩) hp).trans e3))
 have I0 := hide (fun w1 (hb : Below W.heap.size W w1) => ih w1 ((uh B0).trans (hb.mono (uh B0).size)))
 have MK := hide (fun w1 => markS_ex (mkS 45) w1)
 obtain ⟨i0, hi, hz0, hz1, hz2⟩ := info_parts infoT
 clear hg xl ih e0 e1 e2 e3 hp
 unfold Ex.cs at I0
 unfold mkS Tk.v Tk.cs at MK
 simp only at MK
 generalize a.k = ak at *
 generalize a.n = an at *
 generalize a.s = asv at *
 generalize a.l.length = al at *
 go_enter Tryz.func126, Tryz.ntmps126
 go_wp2_with fail
 have D0 := hide (show Below W.heap.size W W.drew from below_drew)
 refine wp_region_held_drew (S := fun w' => Below W.heap.size W w') (by kernel_rfl) (uh D0) (fun hS => ?_)
 have HS := hide hS
 clear hS
 refine tkB 2 (.pointer (some ⟨w.heap.size, 3, none⟩)) rfl (uh HS) ?_
 go_simp
 refine tkA 3 (.slice (some ⟨p, po, none⟩) 1 cap) rfl (.inl ⟨by rfl, fun w hc => ?_⟩) (uh HS) ?_
 · have q := uh Y3 _ hc; clear hc; go_simp
 go_simp
 refine tkB 4 (.pointer (some ⟨p, po, none⟩)) rfl (uh HS) ?_
 go_simp
 refine tkA 5 (.agg #[.int .i64 ak, .int .i64 an, .string asv, .slice c0 al cp0]) rfl (.inl ⟨by rfl, fun w hc => ?_⟩) (uh HS) ?_
 · have q0 := uh U0 _ hc; have q1 := uh U1 _ hc; have q2 := uh U2 _ hc; have q3 := uh U3 _ hc; clear hc; go_simp
 go_simp
 refine wpAnyH_ready (rs := [0]) (by kernel_rfl) (by simp) ?_
 refine AllReadyH.cons rfl (fun K2 hK => ?_) AllReadyH.nil
 go_simp
 refine (uh MK _).mono ?_
 rintro r w1 ⟨rfl, hb1⟩
 have D1 := hide ((uh D0).trans (hb1.mono (uh D0).size))
 refine hK.out _ _ (uh D1) (fun hS => ?_)
 clear HS
 have HS := hide hS
 clear hS hK K2
 clear hb1 D0
 refine wpAnyH_ready (rs := [1, 6]) (by kernel_rfl) (by simp) ?_
 refine AllReadyH.cons rfl (fun K2 hK => ?_) (AllReadyH.cons rfl (fun K2 hK => ?_) AllReadyH.nil)
 ·
  go_simp
  have D2 := hide ((uh D1).alloc (uh D1).size (.cells #[.int .i64 4, .int .i64 0, .string ⟨#[45]⟩] 71))
  have N2 := hide (ownT_new w1 (Tk.mk 4 0 ⟨#[45]⟩) W.heap.size (uh D1).size)
  unfold Tk.cs at N2
  simp only at N2
  generalize w1.heap.size = g1 at *
  generalize w1.alloc (.cells #[.int .i64 4, .int .i64 0, .string ⟨#[45]⟩] 71) = w2 at *
  refine hK.out _ _ (uh D2) (fun hS => ?_)
  clear HS
  have HS := hide hS
  clear hS hK K2
  refine wpAnyH_ready (rs := [6]) (by kernel_rfl) (by simp) ?_
  refine AllReadyH.cons rfl (fun K2 hK => ?_) AllReadyH.nil
  go_simp
  refine (uh I0 _ (uh D2)).mono ?_
  rintro r w3 ⟨v3, rfl, o3, hb3⟩
  have D3 := hide ((uh D2).trans (hb3.mono (uh D2).size))
  have O1 := hide ((uh N2).later hb3)
  obtain ⟨g2, c2, rfl, sr⟩ := (o3.base (uh D2).size).src hts
  have SR := hide sr
  refine hK.out _ _ (uh D3) (fun hS => ?_)
  clear HS
  have HS := hide hS
  clear hS hK K2
  clear hb3 o3 sr N2 D2 D1
  refine wpAnyH_ready (rs := [7]) (by kernel_rfl) (by simp) ?_
  refine AllReadyH.cons rfl (fun K2 hK => ?_) AllReadyH.nil
  rw [if_pos (by rfl)]
  refine wp_append_own _ (.tmp 25) (.tmp 30) 39 rfl W.heap.size 71 i0 (.agg #[.int .i64 0, .int .i64 0, .string ⟨#[]⟩]) 3 32 Tryz.underlying39 hi hz0 hz1 hz2 rfl (by decide) (.slice (some ⟨g1, 0, none⟩) 1 1) 1 (cellsT [Tk.mk 4 0 ⟨#[45]⟩]) rfl (uh O1) ⟨g2, 0, none⟩ ts.length c2 (cellsT ts) rfl (cellsT_len ts) (uh SR) (cellsT_one ts) (by unfold maxLen; omega) (by omega) (uh D3).size ?_
  intro v5 w5 hown5 hgrow5 _
  have O5 := hide (ownT_join (ts := [Tk.mk 4 0 ⟨#[45]⟩]) (us := ts) hown5)
  have D5 := hide ((uh D3).grown hgrow5 (uh D3).size (fun g hg => ((uh O1).lt hg).1))
  refine hK.out _ _ (uh D5) (fun hS => ?_)
  clear HS
  have HS := hide hS
  clear hS hK K2
  refine tkB 8 (v5) rfl (uh HS) ?_
  go_simp
  refine wpAnyH_done (by kernel_rfl) ?_ _
  clear hown5 hgrow5 O1 D3 SR HS
  go_wp2
  go_ret
  exact ⟨_, rfl, (uh O5).base (uh B0).size, (uh B0).trans ((uh D5).mono (uh B0).size)⟩
 ·
  go_simp
  refine (uh I0 _ (uh D1)).mono ?_
  rintro r w2 ⟨v3, rfl, o3, hb3⟩
  have D2 := hide ((uh D1).trans (hb3.mono (uh D1).size))
  have O3 := hide (o3.base (uh D1).size)
  refine hK.out _ _ (uh D2) (fun hS => ?_)
  clear HS
  have HS := hide hS
  clear hS hK K2
  clear hb3 o3
  refine wpAnyH_ready (rs := [1]) (by kernel_rfl) (by simp) ?_
  refine AllReadyH.cons rfl (fun K2 hK => ?_) AllReadyH.nil
  go_simp
  have D3 := hide ((uh D2).alloc (uh D2).size (.cells #[.int .i64 4, .int .i64 0, .string ⟨#[45]⟩] 71))
  have O1 := hide (ownT_new w2 (Tk.mk 4 0 ⟨#[45]⟩) W.heap.size (uh D2).size)
  obtain ⟨g2, c2, rfl, sr⟩ := ((uh O3).later (below_new w2 (.cells #[.int .i64 4, .int .i64 0, .string ⟨#[45]⟩] 71))).src hts
  have SR := hide sr
  unfold Tk.cs at O1
  simp only at O1
  clear sr O3
  generalize w2.heap.size = g1 at *
  generalize w2.alloc (.cells #[.int .i64 4, .int .i64 0, .string ⟨#[45]⟩] 71) = w3 at *
  refine hK.out _ _ (uh D3) (fun hS => ?_)
  clear HS
  have HS := hide hS
  clear hS hK K2
  clear D2 D1
  refine wpAnyH_ready (rs := [7]) (by kernel_rfl) (by simp) ?_
  refine AllReadyH.cons rfl (fun K2 hK => ?_) AllReadyH.nil
  rw [if_pos (by rfl)]
  refine wp_append_own _ (.tmp 25) (.tmp 30) 39 rfl W.heap.size 71 i0 (.agg #[.int .i64 0, .int .i64 0, .string ⟨#[]⟩]) 3 32 Tryz.underlying39 hi hz0 hz1 hz2 rfl (by decide) (.slice (some ⟨g1, 0, none⟩) 1 1) 1 (cellsT [Tk.mk 4 0 ⟨#[45]⟩]) rfl (uh O1) ⟨g2, 0, none⟩ ts.length c2 (cellsT ts) rfl (cellsT_len ts) (uh SR) (cellsT_one ts) (by unfold maxLen; omega) (by omega) (uh D3).size ?_
  intro v5 w5 hown5 hgrow5 _
  have O5 := hide (ownT_join (ts := [Tk.mk 4 0 ⟨#[45]⟩]) (us := ts) hown5)
  have D5 := hide ((uh D3).grown hgrow5 (uh D3).size (fun g hg => ((uh O1).lt hg).1))
  refine hK.out _ _ (uh D5) (fun hS => ?_)
  clear HS
  have HS := hide hS
  clear hS hK K2
  refine tkB 8 (v5) rfl (uh HS) ?_
  go_simp
  refine wpAnyH_done (by kernel_rfl) ?_ _
  clear hown5 hgrow5 O1 D3 SR HS
  go_wp2
  go_ret
  exact ⟨_, rfl, (uh O5).base (uh B0).size, (uh B0).trans ((uh D5).mono (uh B0).size)⟩
structure Ag where
 f : Int
 r : Int
 e : Ex
def Ag.cs (a : Ag) (b : Option Addr) (cap : Nat) : Array Value := #[.int .i64 a.f, .int .i64 a.r, .int .i64 a.e.k, .int .i64 a.e.n, .string a.e.s, .slice b a.e.l.length cap]
structure Ln where
 k : Int
 s : ByteArray
 op : Int
 src : Ag
 dst : Ag
 n : Int
 l : List Ex
structure La where
 b1 : Option Addr
 c1 : Nat
 b2 : Option Addr
 c2 : Nat
 b3 : Option Addr
 c3 : Nat
def Ln.cs (x : Ln) (p : La) : Array Value := #[.int .i64 x.k, .string x.s, .int .i64 x.op, .int .i64 x.src.f, .int .i64 x.src.r, .int .i64 x.src.e.k, .int .i64 x.src.e.n, .string x.src.e.s, .slice p.b1 x.src.e.l.length p.c1, .int .i64 x.dst.f, .int .i64 x.dst.r, .int .i64 x.dst.e.k, .int .i64 x.dst.e.n, .string x.dst.e.s, .slice p.b2 x.dst.e.l.length p.c2, .int .i64 x.n, .slice p.b3 x.l.length p.c3]
def zroV (k n : Int) (s : ByteArray) (ll : Nat) : Bool := k == 0 && (n == 0 && (eqS s E0 && ll == 0))
def zroX (e : Ex) : Bool := zroV e.k e.n e.s e.l.length
def nonX (a : Ag) : Bool := a.f == 0 && (a.r == 0 && zroX a.e)
def agX (a : Ag) : Bool := if inB a.f 0 5 = true then inB a.r 0 7 && zroX a.e else if a.f == 6 || a.f == 7 then inB a.r 0 7 && okF 6 true a.e else if inB a.f 8 11 = true then a.r == 0 && okF 6 true a.e else false
theorem zroS (k n : Int) (s : ByteArray) (ll : Nat) (hs : s.size ≤ 1099511627776) (hl : ll ≤ 1099511627776) (b : Option Addr) (cap : Nat) (w : World) : Calls Tryz.prog 62 #[.agg #[.int .i64 k, .int .i64 n, .string s, .slice b ll cap]] w fun r w' => r = .returned (.bool (zroV k n s ll)) ∧ Below w.heap.size w w' := by
 by_cases h1 : k = 0
 ·
  subst h1
  by_cases h2 : n = 0
  ·
   subst h2
   by_cases h3 : s = ⟨#[]⟩
   ·
    subst h3
    by_cases h4 : ll = 0
    ·
     subst h4
     have B0 := hide (below_new w (.cells #[.int .i64 0, .int .i64 0, .string ⟨#[]⟩, .slice b 0 cap] 26))
     have V : zroV 0 0 ⟨#[]⟩ 0 = true := by simp [zroV, eqE, eqE1, *]
     rw [V]
     clear V
     go_enter Tryz.func62, Tryz.ntmps62
     go_wp2
     go_ret
     exact ⟨rfl, uh B0⟩
    have h4f : (ll == 0) = false := beq_eq_false_iff_ne.2 h4
    have h4g : ((ll : Int) == 0) = false := beq_eq_false_iff_ne.2 (by omega)
    have B0 := hide (below_new w (.cells #[.int .i64 0, .int .i64 0, .string ⟨#[]⟩, .slice b ll cap] 26))
    have V : zroV 0 0 ⟨#[]⟩ ll = false := by simp [zroV, eqE, eqE1, *]
    rw [V]
    clear V
    go_enter Tryz.func62, Tryz.ntmps62
    go_wp2
    go_ret
    exact ⟨rfl, uh B0⟩
   obtain ⟨h3a, h3b⟩ := emp_E s h3
   have B0 := hide (below_new w (.cells #[.int .i64 0, .int .i64 0, .string s, .slice b ll cap] 26))
   have V : zroV 0 0 s ll = false := by simp [zroV, eqE, eqE1, *]
   rw [V]
   clear V
   go_enter Tryz.func62, Tryz.ntmps62
   go_wp2
   go_ret
   exact ⟨rfl, uh B0⟩
  have h2f : (n == 0) = false := beq_eq_false_iff_ne.2 h2
  have B0 := hide (below_new w (.cells #[.int .i64 0, .int .i64 n, .string s, .slice b ll cap] 26))
  have V : zroV 0 n s ll = false := by simp [zroV, eqE, eqE1, *]
  rw [V]
  clear V
  go_enter Tryz.func62, Tryz.ntmps62
  go_wp2
  go_ret
  exact ⟨rfl, uh B0⟩
 have h1f : (k == 0) = false := beq_eq_false_iff_ne.2 h1
 have B0 := hide (below_new w (.cells #[.int .i64 k, .int .i64 n, .string s, .slice b ll cap] 26))
 have V : zroV k n s ll = false := by simp [zroV, eqE, eqE1, *]
 rw [V]
 clear V
 go_enter Tryz.func62, Tryz.ntmps62
 go_wp2
 go_ret
 exact ⟨rfl, uh B0⟩
def nonV (f r : Int) (q : Bool) : Bool := f == 0 && (r == 0 && q)
theorem nonS_any (a : Ag) (hs : a.e.s.size ≤ 1099511627776) (hl : a.e.l.length ≤ 1099511627776) (b : Option Addr) (cap : Nat) (w : World) : Calls Tryz.prog 73 #[.agg (a.cs b cap)] w fun r w' => r = .returned (.bool (nonX a)) ∧ Below w.heap.size w w' := by
 have Q := hide (fun w => zroS a.e.k a.e.n a.e.s a.e.l.length hs hl b cap w)
 unfold Ag.cs
 rw [show nonX a = nonV a.f a.r (zroX a.e) from rfl]
 rw [show zroX a.e = zroV a.e.k a.e.n a.e.s a.e.l.length from rfl]
 generalize zroV a.e.k a.e.n a.e.s a.e.l.length = q at *
 generalize a.f = f at *
 generalize a.r = r at *
 generalize a.e.k = k at *
 generalize a.e.n = n at *
 generalize a.e.s = s at *
 generalize a.e.l.length = ll at *
 by_cases h15 : f = 0
 ·
  subst h15
  by_cases h16 : r = 0
  ·
   subst h16
   have B0 := hide (below_new w (.cells #[.int .i64 0, .int .i64 0, .int .i64 k, .int .i64 n, .string s, .slice b ll cap] 28))
   have V : nonV 0 0 q = q := by simp [nonV, *]
   rw [V]
   clear V
   go_enter Tryz.func73, Tryz.ntmps73
   go_wp2_with (go_at_call 62; refine (uh Q _).mono ?_; rintro e w1 ⟨rfl, hb1⟩)
   go_ret
   exact ⟨rfl, (uh B0).trans (hb1.mono (uh B0).size)⟩
  have h16f : (r == 0) = false := beq_eq_false_iff_ne.2 h16
  have B0 := hide (below_new w (.cells #[.int .i64 0, .int .i64 r, .int .i64 k, .int .i64 n, .string s, .slice b ll cap] 28))
  have V : nonV 0 r q = false := by simp [nonV, *]
  rw [V]
  clear V
  go_enter Tryz.func73, Tryz.ntmps73
  go_wp2_with (go_at_call 62; refine (uh Q _).mono ?_; rintro e w1 ⟨rfl, hb1⟩)
  go_ret
  exact ⟨rfl, uh B0⟩
 have h15f : (f == 0) = false := beq_eq_false_iff_ne.2 h15
 have B0 := hide (below_new w (.cells #[.int .i64 f, .int .i64 r, .int .i64 k, .int .i64 n, .string s, .slice b ll cap] 28))
 have V : nonV f r q = false := by simp [nonV, *]
 rw [V]
 clear V
 go_enter Tryz.func73, Tryz.ntmps73
 go_wp2_with (go_at_call 62; refine (uh Q _).mono ?_; rintro e w1 ⟨rfl, hb1⟩)
 go_ret
 exact ⟨rfl, uh B0⟩
def agV (f r : Int) (q p : Bool) : Bool := if inB f 0 5 = true then inB r 0 7 && q else if f == 6 || f == 7 then inB r 0 7 && p else if inB f 8 11 = true then r == 0 && p else false
theorem agS_any (a : Ag) (b : Option Addr) (cap : Nat) (w : World) (hr : RdX w 0 a.e b) (hz : a.e.sz ≤ 1048576) : Calls Tryz.prog 18 #[.agg (a.cs b cap)] w fun r w' => r = .returned (.bool (agX a)) ∧ Below w.heap.size w w' := by
 have hsz := sz_is a.e
 have Q := hide (fun w => zroS a.e.k a.e.n a.e.s a.e.l.length (by omega) (by omega) b cap w)
 have P := hide (fun w' (h : Below w.heap.size w w') => plainS_any a.e b cap w' (hr.later h) hz)
 unfold Ex.cs at P
 unfold Ag.cs
 rw [show agX a = agV a.f a.r (zroX a.e) (okF 6 true a.e) from rfl]
 rw [show zroX a.e = zroV a.e.k a.e.n a.e.s a.e.l.length from rfl]
 generalize zroV a.e.k a.e.n a.e.s a.e.l.length = q at *
 generalize okF 6 true a.e = p at *
 generalize a.f = f at *
 generalize a.r = r at *
 generalize a.e.k = k at *
 generalize a.e.n = n at *
 generalize a.e.s = s at *
 generalize a.e.l.length = ll at *
 clear hsz hr hz
 cases h23 : inB f 0 5 with
 | true =>
  cases h24 : inB r 0 7 with
  | true =>
   have B0 := hide (below_new w (.cells #[.int .i64 f, .int .i64 r, .int .i64 k, .int .i64 n, .string s, .slice b ll cap] 28))
   have V : agV f r q p = q := by simp [agV, *]
   rw [V]
   clear V
   go_enter Tryz.func18, Tryz.ntmps18
   go_wp2_with (first | (go_at_call 61; refine (in_any _ _ _ _).mono ?_; rintro e w' ⟨rfl, hw'⟩; rw [hw']; clear hw' w') | (go_at_call 62; refine (uh Q _).mono ?_; rintro e w1 ⟨rfl, hb1⟩))
   go_ret
   exact ⟨rfl, (uh B0).trans (hb1.mono (uh B0).size)⟩
  | false =>
   have B0 := hide (below_new w (.cells #[.int .i64 f, .int .i64 r, .int .i64 k, .int .i64 n, .string s, .slice b ll cap] 28))
   have V : agV f r q p = false := by simp [agV, *]
   rw [V]
   clear V
   go_enter Tryz.func18, Tryz.ntmps18
   go_wp2_with (go_at_call 61; refine (in_any _ _ _ _).mono ?_; rintro e w' ⟨rfl, hw'⟩; rw [hw']; clear hw' w')
   go_ret
   exact ⟨rfl, uh B0⟩
 | false =>
  by_cases h29 : f = 6
  ·
   subst h29
   cases h30 : inB r 0 7 with
   | true =>
    have B0 := hide (below_new w (.cells #[.int .i64 6, .int .i64 r, .int .i64 k, .int .i64 n, .string s, .slice b ll cap] 28))
    have V : agV 6 r q p = p := by simp [agV, *]
    rw [V]
    clear V
    have P1 := hide (uh P _ (uh B0))
    go_enter Tryz.func18, Tryz.ntmps18
    go_wp2_with (first | (go_at_call 61; refine (in_any _ _ _ _).mono ?_; rintro e w' ⟨rfl, hw'⟩; rw [hw']; clear hw' w') | (go_at_call 63; refine (uh P1).mono ?_; rintro e w1 ⟨rfl, hb1⟩))
    go_ret
    exact ⟨rfl, (uh B0).trans (hb1.mono (uh B0).size)⟩
   | false =>
    have B0 := hide (below_new w (.cells #[.int .i64 6, .int .i64 r, .int .i64 k, .int .i64 n, .string s, .slice b ll cap] 28))
    have V : agV 6 r q p = false := by simp [agV, *]
    rw [V]
    clear V
    go_enter Tryz.func18, Tryz.ntmps18
    go_wp2_with (go_at_call 61; refine (in_any _ _ _ _).mono ?_; rintro e w' ⟨rfl, hw'⟩; rw [hw']; clear hw' w')
    go_ret
    exact ⟨rfl, uh B0⟩
  have h29f : (f == 6) = false := beq_eq_false_iff_ne.2 h29
  by_cases h35 : f = 7
  ·
   subst h35
   cases h36 : inB r 0 7 with
   | true =>
    have B0 := hide (below_new w (.cells #[.int .i64 7, .int .i64 r, .int .i64 k, .int .i64 n, .string s, .slice b ll cap] 28))
    have V : agV 7 r q p = p := by simp [agV, *]
    rw [V]
    clear V
    have P1 := hide (uh P _ (uh B0))
    go_enter Tryz.func18, Tryz.ntmps18
    go_wp2_with (first | (go_at_call 61; refine (in_any _ _ _ _).mono ?_; rintro e w' ⟨rfl, hw'⟩; rw [hw']; clear hw' w') | (go_at_call 63; refine (uh P1).mono ?_; rintro e w1 ⟨rfl, hb1⟩))
    go_ret
    exact ⟨rfl, (uh B0).trans (hb1.mono (uh B0).size)⟩
   | false =>
    have B0 := hide (below_new w (.cells #[.int .i64 7, .int .i64 r, .int .i64 k, .int .i64 n, .string s, .slice b ll cap] 28))
    have V : agV 7 r q p = false := by simp [agV, *]
    rw [V]
    clear V
    go_enter Tryz.func18, Tryz.ntmps18
    go_wp2_with (go_at_call 61; refine (in_any _ _ _ _).mono ?_; rintro e w' ⟨rfl, hw'⟩; rw [hw']; clear hw' w')
    go_ret
    exact ⟨rfl, uh B0⟩
  have h35f : (f == 7) = false := beq_eq_false_iff_ne.2 h35
  cases h41 : inB f 8 11 with
  | true =>
   by_cases h42 : r = 0
   ·
    subst h42
    have B0 := hide (below_new w (.cells #[.int .i64 f, .int .i64 0, .int .i64 k, .int .i64 n, .string s, .slice b ll cap] 28))
    have V : agV f 0 q p = p := by simp [agV, *]
    rw [V]
    clear V
    have P1 := hide (uh P _ (uh B0))
    go_enter Tryz.func18, Tryz.ntmps18
    go_wp2_with (first | (go_at_call 61; refine (in_any _ _ _ _).mono ?_; rintro e w' ⟨rfl, hw'⟩; rw [hw']; clear hw' w') | (go_at_call 63; refine (uh P1).mono ?_; rintro e w1 ⟨rfl, hb1⟩))
    go_ret
    exact ⟨rfl, (uh B0).trans (hb1.mono (uh B0).size)⟩
   have h42f : (r == 0) = false := beq_eq_false_iff_ne.2 h42
   have B0 := hide (below_new w (.cells #[.int .i64 f, .int .i64 r, .int .i64 k, .int .i64 n, .string s, .slice b ll cap] 28))
   have V : agV f r q p = false := by simp [agV, *]
   rw [V]
   clear V
   go_enter Tryz.func18, Tryz.ntmps18
   go_wp2_with (go_at_call 61; refine (in_any _ _ _ _).mono ?_; rintro e w' ⟨rfl, hw'⟩; rw [hw']; clear hw' w')
   go_ret
   exact ⟨rfl, uh B0⟩
  | false =>
   have B0 := hide (below_new w (.cells #[.int .i64 f, .int .i64 r, .int .i64 k, .int .i64 n, .string s, .slice b ll cap] 28))
   have V : agV f r q p = false := by simp [agV, *]
   rw [V]
   clear V
   go_enter Tryz.func18, Tryz.ntmps18
   go_wp2_with (go_at_call 61; refine (in_any _ _ _ _).mono ?_; rintro e w' ⟨rfl, hw'⟩; rw [hw']; clear hw' w')
   go_ret
   exact ⟨rfl, uh B0⟩
theorem plnS_any (l : List Ex) (b : Option Addr) (cap : Nat) (w : World) (hr : RdX w 0 ⟨0, 0, E0, l⟩ b) (hz : l.length ≤ 1048576) (hp : ∀ i, i < l.length → (xAt l i).sz ≤ 1048576) : Calls Tryz.prog 75 #[.slice b l.length cap] w fun r w' => r = .returned (.bool (l.all (okF 6 true))) ∧ Below w.heap.size w w' := by
 rw [RdX_eq] at hr
 obtain ⟨len, hl⟩ : ∃ len, l.length = len := ⟨_, rfl⟩
 rw [hl] at hz hp ⊢
 have ne := Sub.ne w.heap.size w
 have HZ := hide (Nat.le_refl w.heap.size)
 have HB := hide (fun y : Sub w.heap.size w => y.h)
 obtain ⟨T, hT⟩ : ∃ T, (l.all (okF 6 true)) = T := ⟨_, rfl⟩
 have HT := hide hT
 rw [hT]
 clear hT
 go_enter Tryz.func75, Tryz.ntmps75
 go_wp2
 go_loopw [3] (fun i wr => ∃ (j : Nat) (z : Sub w.heap.size w), j ≤ len ∧ i = .int .i64 j ∧ (l.take j).all (okF 6 true) = true ∧ wr = z.w) (fun i _ => len - (intOf i).toNat)
 case atStart => exact ⟨0, ⟨w, Below.refl _ _⟩, Nat.zero_le _, rfl, rfl, rfl⟩
 case round =>
  obtain ⟨j, z, hj, rfl, hdone, rfl⟩ := hrel
  have HD := hide hdone
  clear hdone
  by_cases hlt : j < len
  ·
   rcases hr with h0 | ⟨p1, po, hb1, _, hp1, hpc⟩
   ·
    have h0 : l = [] := h0
    rw [h0] at hl; simp at hl; omega
   subst hb1
   obtain ⟨e0, e1, e2, pc, pp, e3, e4⟩ := hpc j (show j < l.length by omega)
   have d0 : ∀ y : Sub w.heap.size w, y.w.cell? ⟨p1, po + j * 4, none⟩ = some (.int .i64 (xAt l j).k) := fun y => (y.h.cell (p := ⟨p1, _, none⟩) hp1).trans e0
   have d1 : ∀ y : Sub w.heap.size w, y.w.cell? ⟨p1, po + j * 4 + 1, none⟩ = some (.int .i64 (xAt l j).n) := fun y => (y.h.cell (p := ⟨p1, _, none⟩) hp1).trans e1
   have d2 : ∀ y : Sub w.heap.size w, y.w.cell? ⟨p1, po + j * 4 + 2, none⟩ = some (.string (xAt l j).s) := fun y => (y.h.cell (p := ⟨p1, _, none⟩) hp1).trans e2
   have d3 : ∀ y : Sub w.heap.size w, y.w.cell? ⟨p1, po + j * 4 + 3, none⟩ = some (.slice pc (xAt l j).l.length pp) := fun y => (y.h.cell (p := ⟨p1, _, none⟩) hp1).trans e3
   have HE := hide (fun y : Sub w.heap.size w => plainS_any (xAt l j) pc pp y.w ((show RdX w 0 (xAt l j) pc from e4).later y.h) (hp j hlt))
   have AT := hide (all_take l (okF 6 true) j (by omega))
   have AP := hide (fun h => all_part (f := (okF 6 true)) (show j < l.length by omega) h)
   clear e0 e1 e2 e3 e4 hpc hp
   unfold Ex.cs at HE
   generalize okF 6 true (xAt l j) = q at *
   generalize (xAt l j).s = ss at *
   generalize (xAt l j).k = kk at *
   generalize (xAt l j).n = nn at *
   generalize (xAt l j).l.length = ll at *
   cases q with
   | false =>
    have EF := hide ((uh HT).symm.trans (uh AP rfl))
    go_wp2_with (go_at_call 63; refine (Sub.call (uh HZ) (uh HE _)).mono ?_; rintro r _ ⟨rfl, z2, rfl⟩)
    go_ret
    exact ⟨by rw [uh EF]; rfl, uh HB _⟩
   | true =>
    go_wp2_with (go_at_call 63; refine (Sub.call (uh HZ) (uh HE _)).mono ?_; rintro r _ ⟨rfl, z2, rfl⟩)
    go_roundw
    case rel => exact ⟨j + 1, z2, by omega, by go_num, by rw [uh AT, uh HD]; rfl, rfl⟩
    case measure => simp [intOf]; omega
  ·
   obtain rfl : j = len := by omega
   have EF := hide ((show l.all (okF 6 true) = (l.take j).all (okF 6 true) by rw [← hl, List.take_length]).trans (uh HD))
   have EF := hide ((uh HT).symm.trans (uh EF))
   go_wp2
   go_ret
   exact ⟨by rw [uh EF]; rfl, uh HB _⟩
def nmF (e : Ex) : Bool := okF 6 true e && e.k == 2
theorem nmF_is (e : Ex) : nmF e = (okF 6 true e && e.k == 2) := rfl
def nmsX (l : List Ex) : Bool := l.all nmF && inB l.length 1 6
theorem nmsS_any (l : List Ex) (b : Option Addr) (cap : Nat) (w : World) (hr : RdX w 0 ⟨0, 0, E0, l⟩ b) (hz : l.length ≤ 1048576) (hp : ∀ i, i < l.length → (xAt l i).sz ≤ 1048576) : Calls Tryz.prog 76 #[.slice b l.length cap] w fun r w' => r = .returned (.bool (nmsX l)) ∧ Below w.heap.size w w' := by
 rw [RdX_eq] at hr
 obtain ⟨len, hl⟩ : ∃ len, l.length = len := ⟨_, rfl⟩
 unfold nmsX
 rw [hl] at hz hp ⊢
 have ne := Sub.ne w.heap.size w
 have HZ := hide (Nat.le_refl w.heap.size)
 have HB := hide (fun y : Sub w.heap.size w => y.h)
 obtain ⟨T, hT⟩ : ∃ T, (l.all nmF && inB len 1 6) = T := ⟨_, rfl⟩
 have HT := hide hT
 rw [hT]
 clear hT
 go_enter Tryz.func76, Tryz.ntmps76
 go_wp2
 go_loopw [3] (fun i wr => ∃ (j : Nat) (z : Sub w.heap.size w), j ≤ len ∧ i = .int .i64 j ∧ (l.take j).all nmF = true ∧ wr = z.w) (fun i _ => len - (intOf i).toNat)
 case atStart => exact ⟨0, ⟨w, Below.refl _ _⟩, Nat.zero_le _, rfl, rfl, rfl⟩
 case round =>
  obtain ⟨j, z, hj, rfl, hdone, rfl⟩ := hrel
  have HD := hide hdone
  clear hdone
  by_cases hlt : j < len
  ·
   rcases hr with h0 | ⟨p1, po, hb1, _, hp1, hpc⟩
   ·
    have h0 : l = [] := h0
    rw [h0] at hl; simp at hl; omega
   subst hb1
   obtain ⟨e0, e1, e2, pc, pp, e3, e4⟩ := hpc j (show j < l.length by omega)
   have d0 : ∀ y : Sub w.heap.size w, y.w.cell? ⟨p1, po + j * 4, none⟩ = some (.int .i64 (xAt l j).k) := fun y => (y.h.cell (p := ⟨p1, _, none⟩) hp1).trans e0
   have d1 : ∀ y : Sub w.heap.size w, y.w.cell? ⟨p1, po + j * 4 + 1, none⟩ = some (.int .i64 (xAt l j).n) := fun y => (y.h.cell (p := ⟨p1, _, none⟩) hp1).trans e1
   have d2 : ∀ y : Sub w.heap.size w, y.w.cell? ⟨p1, po + j * 4 + 2, none⟩ = some (.string (xAt l j).s) := fun y => (y.h.cell (p := ⟨p1, _, none⟩) hp1).trans e2
   have d3 : ∀ y : Sub w.heap.size w, y.w.cell? ⟨p1, po + j * 4 + 3, none⟩ = some (.slice pc (xAt l j).l.length pp) := fun y => (y.h.cell (p := ⟨p1, _, none⟩) hp1).trans e3
   have HE := hide (fun y : Sub w.heap.size w => plainS_any (xAt l j) pc pp y.w ((show RdX w 0 (xAt l j) pc from e4).later y.h) (hp j hlt))
   have AT := hide (all_take l nmF j (by omega))
   have AP := hide (fun h => all_part (f := nmF) (show j < l.length by omega) h)
   clear e0 e1 e2 e3 e4 hpc hp
   unfold Ex.cs at HE
   rw [nmF_is] at AT AP
   generalize okF 6 true (xAt l j) = q at *
   generalize (xAt l j).s = ss at *
   generalize (xAt l j).k = kk at *
   generalize (xAt l j).n = nn at *
   generalize (xAt l j).l.length = ll at *
   cases q with
   | false =>
    have EF := hide ((uh HT).symm.trans (show (l.all nmF && inB len 1 6) = false by rw [uh AP rfl]; rfl))
    go_wp2_with (go_at_call 63; refine (Sub.call (uh HZ) (uh HE _)).mono ?_; rintro r _ ⟨rfl, z2, rfl⟩)
    go_ret
    exact ⟨by rw [uh EF]; rfl, uh HB _⟩
   | true =>
    by_cases hk : kk = 2
    ·
     subst hk
     go_wp2_with (go_at_call 63; refine (Sub.call (uh HZ) (uh HE _)).mono ?_; rintro r _ ⟨rfl, z2, rfl⟩)
     go_roundw
     case rel => exact ⟨j + 1, z2, by omega, by go_num, by rw [uh AT, uh HD]; rfl, rfl⟩
     case measure => simp [intOf]; omega
    have hkf : (kk == 2) = false := beq_eq_false_iff_ne.2 hk
    have EF := hide ((uh HT).symm.trans (show (l.all nmF && inB len 1 6) = false by rw [uh AP (by rw [hkf]; rfl)]; rfl))
    go_wp2_with (go_at_call 63; refine (Sub.call (uh HZ) (uh HE _)).mono ?_; rintro r _ ⟨rfl, z2, rfl⟩)
    go_ret
    exact ⟨by rw [uh EF]; rfl, uh HB _⟩
  ·
   obtain rfl : j = len := by omega
   have EF := hide ((show l.all nmF = (l.take j).all nmF by rw [← hl, List.take_length]).trans (uh HD))
   have EF := hide ((uh HT).symm.trans (show (l.all nmF && inB j 1 6) = inB j 1 6 by rw [uh EF]; rfl))
   go_wp2_with (go_at_call 61; refine (in_any _ _ _ _).mono ?_; rintro e w' ⟨rfl, hw'⟩; rw [hw']; clear hw' w')
   go_ret
   exact ⟨by rw [uh EF]; rfl, uh HB _⟩
end Go.Proofs.YtjnblcgekpgkoaaGreatDoor
