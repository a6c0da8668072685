/- Contracts over this seat's translation, laid together; conditions stand as hypotheses of each. -/
import Derived.Test.YtkolflcjkofleaaDoorProg
import GoSem.Claim
import Derived.JoinedTies
import Derived.KernelRfl
import Derived.WalkKit
import Derived.ProofKit
import Derived.OpenShut
import Derived.ShutString
import Derived.ChangeOld
import Derived.Below
import Derived.Deep.OwnRows
import Derived.WalkSpells
import Derived.Deep.DeepMust
import Derived.BigQuiet
import Derived.WalkLawsBesides
import Derived.Laws.BitsLemmas
import Derived.Laws.IdiomStrings
import Derived.Lib.Bytealg
import Derived.Laws.Strings3
import Derived.LaidLaws
import Derived.Lib.LaidTab
import Derived.Laws.Rows
import Derived.WalkMore
import Derived.Laws.ResultCell
import Derived.Test.YtkolflcjkofleaaDoorRows
import Derived.Lib.SmallJoins
import Derived.Stop.LaidErr
import Derived.MakeChecks
import Derived.Deep.Slices
import Derived.Laws.AppendOwnNone
import Derived.Laws.OwnMore
import Derived.SliceStrings

namespace Go.Proofs.YtkolflcjkofleaaDoor
open Go.ChangeShapes Go.WideShapes Go.ChangeAt Go.RowKit
set_option linter.unusedVariables false
set_option maxRecDepth 8000

theorem hide {p : Prop} (h : p) : Hid p := h
theorem unhide {p : Prop} (h : Hid p) : p := h
def inB (x a b : Int) : Bool := decide (a ≤ x) && decide (x ≤ b)
theorem inB_t (x a b : Int) (h1 : a ≤ x) (h2 : x ≤ b) : inB x a b = true := by unfold inB; simp [h1, h2]
theorem inB_f (x a b : Int) (h : ¬ (a ≤ x ∧ x ≤ b)) : inB x a b = false := by unfold inB; simp; omega
theorem inB_iff (x a b : Int) : inB x a b = true ↔ a ≤ x ∧ x ≤ b := by unfold inB; simp
theorem in_any (x a b : Int) (w : World) : Calls Tryd.prog 97 #[.int .i64 x, .int .i64 a, .int .i64 b] w fun e w' => e = .returned (.bool (inB x a b)) ∧ w' = w := by
  unfold inB
  by_cases h1 : a ≤ x
  · rw [decide_eq_true h1, Bool.true_and]
    go_enter Tryd.func97, Tryd.ntmps97
    go_wp2
    go_ret
    exact ⟨rfl, rfl⟩
  · rw [decide_eq_false h1, Bool.false_and]
    have h3 : decide (a ≤ x) = false := decide_eq_false h1
    go_enter Tryd.func97, Tryd.ntmps97
    go_wp2
    go_ret
    exact ⟨rfl, rfl⟩
theorem i64_and65535 (n : Int) : bits .and .i64 n 65535 = n % 65536 := by
  have h127 : (BitVec.ofInt 64 65535).toNat = 2 ^ 16 - 1 := by decide
  have key : (BitVec.ofInt 64 n &&& BitVec.ofInt 64 65535).toNat = (n % ((2 ^ 64 : Nat) : Int)).toNat % 2 ^ 16 := by
    rw [BitVec.toNat_and, BitVec.toNat_ofInt, h127, Nat.and_two_pow_sub_one_eq_mod]
  show IntKind.i64.wrap ((BitVec.ofInt 64 n &&& BitVec.ofInt 64 65535).toNat : Nat) = n % 65536
  rw [key, IntKind.wrap_i64]
  omega
theorem ret_int {k : IntKind} {a b : Int} (h : a = b) : Ending.returned (.int k a) = .returned (.int k b) := by rw [h]
theorem ret_bool {a b : Bool} (h : a = b) : Ending.returned (.bool a) = .returned (.bool b) := by rw [h]
theorem wrapI_any (n : Int) (w : World) : Calls Tryd.prog 75 #[.int .i64 n] w fun e w' => e = .returned (.int .i64 (n % 65536)) ∧ w' = w := by
  go_enter Tryd.func75, Tryd.ntmps75
  go_wp2
  go_ret
  exact ⟨ret_int (i64_and65535 n), rfl⟩
theorem wrapS_any (n : Int) (w : World) : Calls Tryd.prog 83 #[.int .i64 n] w fun e w' => e = .returned (.int .i64 (n % 65536)) ∧ w' = w := by
  go_enter Tryd.func83, Tryd.ntmps83
  go_wp2
  go_ret
  exact ⟨ret_int (i64_and65535 n), rfl⟩
theorem isWord_eq (n : Int) : (n == n % 65536) = inB n 0 65535 := by
  unfold inB
  rw [Bool.eq_iff_iff]
  simp
  omega
theorem isWord_any (n : Int) (w : World) : Calls Tryd.prog 85 #[.int .i64 n] w fun e w' => e = .returned (.bool (inB n 0 65535)) ∧ w' = w := by
  rw [← isWord_eq]
  obtain ⟨q, hq⟩ : ∃ q, n % 65536 = q := ⟨_, rfl⟩
  have W := hide (fun w => hq ▸ wrapI_any n w)
  rw [hq]
  clear hq
  go_enter Tryd.func85, Tryd.ntmps85
  go_wp2_with (go_at_call 75; refine (unhide W _).mono ?_; rintro e w' ⟨rfl, rfl⟩)
  go_ret
  exact ⟨rfl, rfl⟩
def bAt (xs : List UInt8) (i : Nat) : Int := ((xs.getD i 0).toNat : Int)
theorem bAt_bd (xs : List UInt8) (i : Nat) : 0 ≤ bAt xs i ∧ bAt xs i ≤ 255 := by
  unfold bAt
  have := (xs.getD i 0).toNat_lt
  omega
theorem sAt (s : ByteArray) (k : Nat) (h : k < s.size) : ((s[k]'h).toNat : Int) = bAt s.data.toList k := by
  unfold bAt
  rw [List.getD_eq_getElem?_getD, List.getElem?_eq_getElem (by simpa using h)]
  rfl
theorem str_ne {a b : ByteArray} (h : a ≠ b) : (a.toList == b.toList) = false := by
  rw [ByteArray.toList_eq, ByteArray.toList_eq]
  exact beq_eq_false_iff_ne.2 (fun e => h (bytes_inj e))
end Go.Proofs.YtkolflcjkofleaaDoor

namespace Go.Proofs.YtkolflcjkofleaaDoor
open Go.ChangeShapes Go.WideShapes Go.ChangeAt Go.RowKit
set_option linter.unusedVariables false
set_option maxRecDepth 8000


theorem i64_and7 (n : Int) : bits .and .i64 n 7 = n % 8 := by
  have h127 : (BitVec.ofInt 64 7).toNat = 2 ^ 3 - 1 := by decide
  have key : (BitVec.ofInt 64 n &&& BitVec.ofInt 64 7).toNat = (n % ((2 ^ 64 : Nat) : Int)).toNat % 2 ^ 3 := by
    rw [BitVec.toNat_and, BitVec.toNat_ofInt, h127, Nat.and_two_pow_sub_one_eq_mod]
  show IntKind.i64.wrap ((BitVec.ofInt 64 n &&& BitVec.ofInt 64 7).toNat : Nat) = n % 8
  rw [key, IntKind.wrap_i64]
  omega

theorem ret_str {a b : ByteArray} (h : a = b) : Ending.returned (.string a) = .returned (.string b) := by rw [h]

def dg (x : Nat) : UInt8 := UInt8.ofNat (48 + x)
/-- The digits to the base 8, in at most so many steps. -/
def octF : Nat → Nat → List UInt8
  | 0, n => [dg n]
  | k + 1, n => if n < 8 then [dg n] else octF k (n / 8) ++ [dg (n % 8)]
theorem octF_same (k : Nat) : ∀ j n, n ≤ k → n ≤ j → octF k n = octF j n := by
  induction k with
  | zero =>
    intro j n h1 h2
    obtain rfl : n = 0 := by omega
    cases j with
    | zero => rfl
    | succ j => rfl
  | succ k ih =>
    intro j n h1 h2
    cases j with
    | zero =>
      obtain rfl : n = 0 := by omega
      rfl
    | succ j =>
      show (if n < 8 then [dg n] else octF k (n / 8) ++ [dg (n % 8)]) = (if n < 8 then [dg n] else octF j (n / 8) ++ [dg (n % 8)])
      by_cases h : n < 8
      · rw [if_pos h, if_pos h]
      · rw [if_neg h, if_neg h, ih j (n / 8) (by omega) (by omega)]
/-- The digits to the base 8. -/
def octD (n : Nat) : List UInt8 := octF n n
theorem octD_step (n : Nat) : octD n = if n < 8 then [dg n] else octD (n / 8) ++ [dg (n % 8)] := by
  unfold octD
  rw [octF_same n (n + 1) n (Nat.le_refl _) (by omega)]
  show (if n < 8 then [dg n] else octF n (n / 8) ++ [dg (n % 8)]) = _
  rw [octF_same n (n / 8) (n / 8) (by omega) (Nat.le_refl _)]
theorem octD_small (n : Nat) (h : n < 8) : octD n = [dg n] := by rw [octD_step, if_pos h]
theorem octD_big (n : Nat) (h : ¬ n < 8) : octD n = octD (n / 8) ++ [dg (n % 8)] := by rw [octD_step, if_neg h]
def octP (n : Nat) : List UInt8 := if n < 8 then [] else octD (n / 8)
theorem octD_split (n : Nat) : octD n = octP n ++ [dg (n % 8)] := by
  unfold octP
  by_cases h : n < 8
  · rw [if_pos h, octD_small n h, Nat.mod_eq_of_lt h]; rfl
  · rw [if_neg h, octD_big n h]
theorem octD_len (n : Nat) : ∀ k, n < 8 ^ (k + 1) → (octD n).length ≤ k + 1 := by
  intro k
  induction k generalizing n with
  | zero => intro h; rw [octD_small n (by omega)]; simp
  | succ k ih =>
    intro h
    by_cases h8 : n < 8
    · rw [octD_small n h8]; simp
    · rw [octD_big n h8, List.length_append]
      have := ih (n / 8) (by rw [Nat.pow_succ] at h; omega)
      simp; omega

def strOf (l : List UInt8) : ByteArray := ⟨l.toArray⟩

theorem strOf_size (l : List UInt8) : (strOf l).size = l.length := by show l.toArray.size = _; simp
theorem strOf_list (l : List UInt8) : (strOf l).data.toList = l := by simp [strOf]
theorem strOf_of (s : ByteArray) : strOf s.data.toList = s := by apply ByteArray.ext; simp [strOf]
theorem strOf_append (a b : List UInt8) : strOf a ++ strOf b = strOf (a ++ b) := by apply ByteArray.ext; show (strOf a ++ strOf b).data = _; rw [ByteArray.data_append]; simp [strOf]

theorem one_conv (W : World) (d : Nat) (hd : d < 8) (x : Int) (hx : x = 48 + (d : Int)) (b : Nat) (hb : b = W.heap.size) : (convert 22 9 (.slice (some ⟨b, 0, none⟩) 1 1)).run Tryd.prog (W.alloc (.cells #[.int .u8 x] 5)) = .ok (.string (strOf [dg d])) (W.alloc (.cells #[.int .u8 x] 5)) := by
  subst hb
  exact run_convert_bytes_back (P := Tryd.prog) (W.alloc (.cells #[.int .u8 x] 5)) 22 9 5 ⟨W.heap.size, 0, none⟩ 1 [dg d] Tryd.underlying22 Tryd.underlying5 Tryd.underlying9 (fun j hj => by
    obtain rfl : j = 0 := by simp at hj; omega
    have e : ((dg d).toNat : Int) = x := by unfold dg; simp; omega
    simp only [List.getElem_cons_zero, e]
    simp [Addr.add])

theorem tz_num : IntKind.u64.wrap (bits BinOp.and IntKind.u64 8 (IntKind.u64.wrap (-8)) * 285870213051353865) / 288230376151711744 = 7 := by decide +kernel

def bOf (xs : List UInt8) (i : Nat) : Int := ((xs.getD i 0).toNat : Int)
/-- The last bytes of the row: noughts, then t. -/
def tail65 (t : List UInt8) (p j : Nat) : Value := if j < p then .int .u8 0 else .int .u8 (bOf t (j - p))
theorem u64_and7 (m : Nat) (hm : m < 65536) : bits .and .u64 (m : Int) 7 = ((m % 8 : Nat) : Int) := by
  have := bits_mask .u64 63 (by decide) (fun n a b => by rw [IntKind.wrap_u64]; omega) 3 (by decide) (m : Int) (by omega) (by omega)
  have e : (2 : Int) ^ 3 - 1 = 7 := by decide
  rw [e] at this
  rw [this]
  omega

def z65 : Array Value := (List.replicate 65 (Value.int .u8 0)).toArray
theorem z65_size : z65.size = 65 := by unfold z65; rw [List.size_toArray, List.length_replicate]
theorem z65_get (i : Nat) (h : i < 65) : z65[i]? = some (Value.int .u8 0) := by unfold z65; rw [List.getElem?_toArray, List.getElem?_replicate, if_pos h]
theorem digit_at (d : Nat) (h8 : d < 8) : ∀ h, (({ data := #[48, 49, 50, 51, 52, 53, 54, 55, 56, 57, 97, 98, 99, 100, 101, 102, 103, 104, 105, 106, 107, 108, 109, 110, 111, 112, 113, 114, 115, 116, 117, 118, 119, 120, 121, 122] } : ByteArray)[d]'h).toNat = 48 + d := by
  match d, h8 with
  | 0, _ => intro h; rfl
  | 1, _ => intro h; rfl
  | 2, _ => intro h; rfl
  | 3, _ => intro h; rfl
  | 4, _ => intro h; rfl
  | 5, _ => intro h; rfl
  | 6, _ => intro h; rfl
  | 7, _ => intro h; rfl
theorem dg_val (d : Nat) (h : d < 8) : ((dg d).toNat : Int) = 48 + d := by unfold dg; simp; omega

end Go.Proofs.YtkolflcjkofleaaDoor

namespace Go.Proofs.YtkolflcjkofleaaDoor
open Go.ChangeShapes Go.WideShapes Go.ChangeAt Go.RowKit
set_option linter.unusedVariables false
set_option maxRecDepth 8000

def smB (c : Int) : Bool := inB c 97 122
def dgB (c : Int) : Bool := inB c 48 57
def ldB (c : Int) : Bool := smB c || dgB c
def blB (c : Int) : Bool := c == 32 || c == 9

theorem smI_any (c : Int) (w : World) : Calls Tryd.prog 99 #[.int .u8 c] w fun e w' => e = .returned (.bool (smB c)) ∧ w' = w := by
  unfold smB inB
  cases h : decide (97 ≤ c)
  · go_enter Tryd.func99, Tryd.ntmps99
    go_wp2
    go_ret
    exact ⟨rfl, rfl⟩
  · go_enter Tryd.func99, Tryd.ntmps99
    go_wp2
    go_ret
    exact ⟨rfl, rfl⟩
theorem dgI_any (c : Int) (w : World) : Calls Tryd.prog 103 #[.int .u8 c] w fun e w' => e = .returned (.bool (dgB c)) ∧ w' = w := by
  unfold dgB inB
  cases h : decide (48 ≤ c)
  · go_enter Tryd.func103, Tryd.ntmps103
    go_wp2
    go_ret
    exact ⟨rfl, rfl⟩
  · go_enter Tryd.func103, Tryd.ntmps103
    go_wp2
    go_ret
    exact ⟨rfl, rfl⟩
theorem ldI_any (c : Int) (w : World) : Calls Tryd.prog 100 #[.int .u8 c] w fun e w' => e = .returned (.bool (ldB c)) ∧ w' = w := by
  have H1 := hide (fun w => smI_any c w)
  have H2 := hide (fun w => dgI_any c w)
  unfold ldB
  generalize smB c = a at *
  generalize dgB c = b at *
  cases a
  · go_enter Tryd.func100, Tryd.ntmps100
    go_wp2_with (first | (go_at_call 99; refine (unhide H1 _).mono ?_; rintro e w' ⟨rfl, rfl⟩) | (go_at_call 103; refine (unhide H2 _).mono ?_; rintro e w' ⟨rfl, rfl⟩))
    go_ret
    exact ⟨rfl, rfl⟩
  · go_enter Tryd.func100, Tryd.ntmps100
    go_wp2_with (first | (go_at_call 99; refine (unhide H1 _).mono ?_; rintro e w' ⟨rfl, rfl⟩) | (go_at_call 103; refine (unhide H2 _).mono ?_; rintro e w' ⟨rfl, rfl⟩))
    go_ret
    exact ⟨rfl, rfl⟩
theorem smS_any (c : Int) (w : World) (h0 : 0 ≤ c) (h1 : c ≤ 255) : Calls Tryd.prog 104 #[.int .u8 c] w fun e w' => e = .returned (.bool (smB c)) ∧ w' = w := by
  unfold smB
  go_enter Tryd.func104, Tryd.ntmps104
  go_wp2_with (go_at_call 97; refine (in_any _ _ _ _).mono ?_; rintro e w' ⟨rfl, rfl⟩)
  go_ret
  exact ⟨rfl, rfl⟩
theorem dgS_any (c : Int) (w : World) (h0 : 0 ≤ c) (h1 : c ≤ 255) : Calls Tryd.prog 105 #[.int .u8 c] w fun e w' => e = .returned (.bool (dgB c)) ∧ w' = w := by
  unfold dgB
  go_enter Tryd.func105, Tryd.ntmps105
  go_wp2_with (go_at_call 97; refine (in_any _ _ _ _).mono ?_; rintro e w' ⟨rfl, rfl⟩)
  go_ret
  exact ⟨rfl, rfl⟩

/-- May this byte stand in a name's form? -/
def okAt (l : List UInt8) (i : Nat) : Bool := smB (bAt l i) || (decide (0 < i) && dgB (bAt l i))
/-- Has a text a name's form? -/
def formB (l : List UInt8) : Bool := (List.range l.length).all (okAt l) && inB l.length 1 6
theorem formB_no {l : List UInt8} {k : Nat} (h : k < l.length) (hk : okAt l k = false) : formB l = false := by
  unfold formB
  have : (List.range l.length).all (okAt l) = false := by
    rw [List.all_eq_false]
    exact ⟨k, List.mem_range.2 h, by rw [hk]; decide⟩
  rw [this, Bool.false_and]
theorem formB_all {l : List UInt8} (h : ∀ k, k < l.length → okAt l k = true) : formB l = inB l.length 1 6 := by
  unfold formB
  have : (List.range l.length).all (okAt l) = true := by
    rw [List.all_eq_true]
    exact fun k hk => h k (List.mem_range.1 hk)
  rw [this, Bool.true_and]
theorem formB_len {l : List UInt8} (h : ¬ (1 ≤ l.length ∧ l.length ≤ 6)) : formB l = false := by
  unfold formB
  rw [inB_f _ _ _ (by omega), Bool.and_false]
theorem size_len (s : ByteArray) : s.data.toList.length = s.size := by simp
theorem empty_of (s : ByteArray) (h : s.size = 0) : s = ⟨#[]⟩ := by apply ByteArray.ext; exact Array.eq_empty_of_size_eq_zero h
theorem emp_no (s : ByteArray) (h : s.size ≠ 0) : s.toList.isEmpty = false := by
  rw [← decide_eq_emptyBytes]
  exact decide_eq_false (fun e => h (by rw [e]; rfl))

set_option maxHeartbeats 400000 in
theorem formS_any (s : ByteArray) (w : World) (hmax : s.size ≤ 1099511627776) : Calls Tryd.prog 101 #[.string s] w fun e w' => e = .returned (.bool (formB s.data.toList)) ∧ w' = w := by
  have hl := size_len s
  obtain ⟨q, hq⟩ : ∃ q, formB s.data.toList = q := ⟨_, rfl⟩
  have NO := hide (fun k hk h => (formB_no (l := s.data.toList) (k := k) hk h).symm.trans hq)
  have YES := hide (fun h => (formB_all (l := s.data.toList) h).symm.trans hq)
  rw [hl] at NO YES
  rw [hq]
  clear hq
  go_enter Tryd.func101, Tryd.ntmps101
  go_wp2
  go_loop [3] (fun i => ∃ k : Nat, i = .int .i64 k ∧ k ≤ s.size ∧ Hid (∀ j, j < k → okAt s.data.toList j = true)) (fun i => s.size - (intOf i).toNat)
  case atStart => exact ⟨0, rfl, by omega, fun j hj => by omega⟩
  case round =>
    obtain ⟨k, rfl, hk, hd⟩ := hrel
    by_cases hlt : k < s.size
    · have he := sAt s k hlt
      have hbd := bAt_bd s.data.toList k
      have N1 := hide (unhide NO k hlt)
      have hd1 : okAt s.data.toList k = true → ∀ j, j < k + 1 → okAt s.data.toList j = true := fun h j hj => by
        by_cases e : j = k
        · subst e; exact h
        · exact hd.out j (by omega)
      have HD := hide hd1
      have S1 := hide (fun w => smS_any (bAt s.data.toList k) w hbd.1 hbd.2)
      have D1 := hide (fun w => dgS_any (bAt s.data.toList k) w hbd.1 hbd.2)
      have OK := hide (show okAt s.data.toList k = (smB (bAt s.data.toList k) || (decide (0 < k) && dgB (bAt s.data.toList k))) from rfl)
      generalize smB (bAt s.data.toList k) = p at S1 OK
      generalize dgB (bAt s.data.toList k) = r at D1 OK
      generalize bAt s.data.toList k = c at he hbd S1 D1
      clear hd hd1
      cases p
      · by_cases hz : k = 0
        · subst hz
          have E := hide (unhide N1 (by rw [unhide OK]; rfl))
          go_wp2_with (first | (go_at_call 104; refine (unhide S1 _).mono ?_; rintro e w' ⟨rfl, rfl⟩) | (go_at_call 105; refine (unhide D1 _).mono ?_; rintro e w' ⟨rfl, rfl⟩))
          go_ret
          exact ⟨by rw [← unhide E]; rfl, rfl⟩
        · have hz1 : ((k : Int) == 0) = false := beq_eq_false_iff_ne.2 (by omega)
          cases r
          · have E := hide (unhide N1 (by rw [unhide OK]; simp))
            go_wp2_with (first | (go_at_call 104; refine (unhide S1 _).mono ?_; rintro e w' ⟨rfl, rfl⟩) | (go_at_call 105; refine (unhide D1 _).mono ?_; rintro e w' ⟨rfl, rfl⟩))
            go_ret
            exact ⟨by rw [← unhide E]; rfl, rfl⟩
          · have E := hide (unhide HD (by rw [unhide OK]; simp; omega))
            go_wp2_with (first | (go_at_call 104; refine (unhide S1 _).mono ?_; rintro e w' ⟨rfl, rfl⟩) | (go_at_call 105; refine (unhide D1 _).mono ?_; rintro e w' ⟨rfl, rfl⟩))
            go_round
            case rel => exact ⟨k + 1, by go_num, by omega, unhide E⟩
            case measure => simp [intOf]; omega
      · have E := hide (unhide HD (by rw [unhide OK]; rfl))
        go_wp2_with (first | (go_at_call 104; refine (unhide S1 _).mono ?_; rintro e w' ⟨rfl, rfl⟩) | (go_at_call 105; refine (unhide D1 _).mono ?_; rintro e w' ⟨rfl, rfl⟩))
        go_round
        case rel => exact ⟨k + 1, by go_num, by omega, unhide E⟩
        case measure => simp [intOf]; omega
    · have E := hide (unhide YES (fun j hj => hd.out j (by omega)))
      clear hd
      go_wp2_with (go_at_call 97; refine (in_any _ _ _ _).mono ?_; rintro e w' ⟨rfl, rfl⟩)
      go_ret
      exact ⟨by rw [← unhide E]; rfl, rfl⟩

set_option maxHeartbeats 400000 in
theorem formI_any (s : ByteArray) (w : World) (hmax : s.size ≤ 1099511627776) : Calls Tryd.prog 94 #[.string s] w fun e w' => e = .returned (.bool (formB s.data.toList)) ∧ w' = w := by
  by_cases h0 : s.size = 0
  · obtain rfl := empty_of s h0
    have E := hide (show false = formB (ByteArray.mk #[]).data.toList by decide)
    rw [← unhide E]
    go_enter Tryd.func94, Tryd.ntmps94
    go_wp2
    go_ret
    exact ⟨rfl, rfl⟩
  · have hl := size_len s
    have hemp := emp_no s h0
    by_cases h6 : 6 < s.size
    · have E := hide (formB_len (l := s.data.toList) (by omega))
      rw [unhide E]
      go_enter Tryd.func94, Tryd.ntmps94
      go_wp2
      go_ret
      exact ⟨rfl, rfl⟩
    · have h6d : decide ((6 : Int) < (s.size : Int)) = false := by simp; omega
      have hlt0 : 0 < s.size := by omega
      have he := sAt s 0 hlt0
      have hbd := bAt_bd s.data.toList 0
      have S0 := hide (fun w => smI_any (bAt s.data.toList 0) w)
      have OK0 := hide (show okAt s.data.toList 0 = smB (bAt s.data.toList 0) by unfold okAt; simp)
      obtain ⟨q, hq⟩ : ∃ q, formB s.data.toList = q := ⟨_, rfl⟩
      have NO := hide (fun k hk h => (formB_no (l := s.data.toList) (k := k) hk h).symm.trans hq)
      have YES := hide (fun h => (formB_all (l := s.data.toList) h).symm.trans hq)
      rw [hl] at NO YES
      have IN := hide (show inB (s.size : Int) 1 6 = true from inB_t _ _ _ (by omega) (by omega))
      rw [hq]
      clear hq
      generalize smB (bAt s.data.toList 0) = p at S0 OK0
      have HE := hide he
      generalize bAt s.data.toList 0 = c0 at he hbd S0
      cases p
      · have E := hide (unhide NO 0 hlt0 (unhide OK0))
        go_enter Tryd.func94, Tryd.ntmps94
        go_wp2_with (go_at_call 99; refine (unhide S0 _).mono ?_; rintro e w' ⟨rfl, rfl⟩)
        go_ret
        exact ⟨by rw [← unhide E]; rfl, rfl⟩
      · go_enter Tryd.func94, Tryd.ntmps94
        go_wp2_with (go_at_call 99; refine (unhide S0 _).mono ?_; rintro e w' ⟨rfl, rfl⟩)
        clear he hbd S0
        go_loop [19] (fun i => ∃ k : Nat, i = .int .i64 k ∧ k ≤ s.size ∧ Hid (∀ j, j < k → okAt s.data.toList j = true)) (fun i => s.size - (intOf i).toNat)
        case atStart => exact ⟨0, rfl, by omega, fun j hj => by omega⟩
        case round =>
          obtain ⟨k, rfl, hk, hd⟩ := hrel
          by_cases hlt : k < s.size
          · have he := sAt s k hlt
            have hbd := bAt_bd s.data.toList k
            have N1 := hide (unhide NO k hlt)
            have hd1 : ldB (bAt s.data.toList k) = true → ∀ j, j < k + 1 → okAt s.data.toList j = true := fun h j hj => by
              by_cases e : j = k
              · subst e
                by_cases hz : j = 0
                · subst hz; exact unhide OK0
                · unfold okAt; rw [decide_eq_true (by omega), Bool.true_and]; exact h
              · exact hd.out j (by omega)
            have HD := hide hd1
            have L1 := hide (fun w => ldI_any (bAt s.data.toList k) w)
            have OK := hide (show ldB (bAt s.data.toList k) = false → okAt s.data.toList k = false from fun h => by
              unfold ldB at h
              rw [Bool.or_eq_false_iff] at h
              unfold okAt
              rw [h.1, h.2]; simp)
            generalize ldB (bAt s.data.toList k) = p at L1 OK HD
            generalize bAt s.data.toList k = c at he hbd L1
            clear hd hd1
            cases p
            · have E := hide (unhide N1 (unhide OK rfl))
              go_wp2_with (go_at_call 100; refine (unhide L1 _).mono ?_; rintro e w' ⟨rfl, rfl⟩)
              go_ret
              exact ⟨by rw [← unhide E]; rfl, rfl⟩
            · have HE2 := hide (unhide HD rfl)
              go_wp2_with (go_at_call 100; refine (unhide L1 _).mono ?_; rintro e w' ⟨rfl, rfl⟩)
              go_round
              case rel => exact ⟨k + 1, by go_num, by omega, unhide HE2⟩
              case measure => simp [intOf]; omega
          · have E := hide ((unhide IN).symm.trans (unhide YES (fun j hj => hd.out j (by omega))))
            clear hd
            go_wp2
            go_ret
            exact ⟨by rw [← unhide E]; rfl, rfl⟩
end Go.Proofs.YtkolflcjkofleaaDoor

namespace Go.Proofs.YtkolflcjkofleaaDoor
open Go.ChangeShapes Go.WideShapes Go.ChangeAt Go.RowKit
set_option linter.unusedVariables false
set_option maxRecDepth 8000

theorem wpList_index_at {P : Program} {ops : Array Oper} {rest : List Oper} {o : Oper} {a : Act} {w : World} {Q : Exit → Act → World → Prop} (hgd : o.guard = none) (xt : TypeId) (x ix : Operand) (ho : o.op = .index xt x ix) (cs : Array Value) (i : Int) (v : Value)
    (hx : a.eval x = .agg cs) (hi : a.eval ix = .int .i64 i) (hr : ∀ w, (Instr.index xt (.agg cs) (.int .i64 i)).run P w = .ok v w) (h : wpList P ops Q rest (a.put o.dst v) w) : wpList P ops Q (o :: rest) a w :=
  wpList_plain hgd fun _ hK => by
    unfold Oper.wp execOp
    simp only [ho, hx, hi, hr, Sem.run_bind, Sem.run_pure, Result.andThen_ok]
    exact hK _ _ h

def eqS (a b : ByteArray) : Bool := a.toList == b.toList
theorem eqS_iff (a b : ByteArray) : eqS a b = true ↔ a = b := by
  unfold eqS
  rw [ByteArray.toList_eq, ByteArray.toList_eq]
  exact ⟨fun h => bytes_inj (eq_of_beq h), fun h => by rw [h]; exact beq_self_eq_true _⟩
def E0 : ByteArray := ⟨#[]⟩
/-- Is a text among these? -/
def hasS (L : List ByteArray) (s : ByteArray) : Bool := L.any (fun t => eqS t s)
theorem hasS_hit {L : List ByteArray} {s : ByteArray} {k : Nat} (h : k < L.length) (he : eqS (L.getD k E0) s = true) : hasS L s = true := by
  unfold hasS
  rw [List.any_eq_true]
  refine ⟨L[k], List.getElem_mem _, ?_⟩
  rw [List.getD_eq_getElem?_getD, List.getElem?_eq_getElem h] at he
  exact he
theorem hasS_miss {L : List ByteArray} {s : ByteArray} (h : ∀ k, k < L.length → eqS (L.getD k E0) s = false) : hasS L s = false := by
  unfold hasS
  rw [List.any_eq_false]
  intro t ht
  obtain ⟨k, hk, rfl⟩ := List.getElem_of_mem ht
  have := h k hk
  rw [List.getD_eq_getElem?_getD, List.getElem?_eq_getElem hk] at this
  simp only [Option.getD_some] at this
  rw [this]
  decide
theorem hasS_iff {L : List ByteArray} {s : ByteArray} : hasS L s = true ↔ s ∈ L := by
  unfold hasS
  rw [List.any_eq_true]
  constructor
  · rintro ⟨t, ht, he⟩
    rw [eqS_iff] at he
    exact he ▸ ht
  · exact fun h => ⟨s, h, (eqS_iff _ _).2 rfl⟩

def wOp : List ByteArray := [⟨#[109, 111, 118]⟩, ⟨#[99, 109, 112]⟩, ⟨#[98, 105, 99]⟩, ⟨#[98, 105, 115]⟩, ⟨#[97, 100, 100]⟩, ⟨#[115, 117, 98]⟩, ⟨#[99, 108, 114]⟩, ⟨#[105, 110, 99]⟩, ⟨#[100, 101, 99]⟩, ⟨#[110, 101, 103]⟩, ⟨#[116, 115, 116]⟩, ⟨#[97, 115, 114]⟩, ⟨#[97, 115, 108]⟩, ⟨#[106, 109, 112]⟩, ⟨#[106, 115, 114]⟩, ⟨#[114, 116, 115]⟩, ⟨#[98, 114]⟩, ⟨#[98, 110, 101]⟩, ⟨#[98, 101, 113]⟩, ⟨#[98, 103, 101]⟩, ⟨#[98, 108, 116]⟩, ⟨#[104, 97, 108, 116]⟩, ⟨#[101, 109, 116]⟩]
def wRg : List ByteArray := [⟨#[114, 48]⟩, ⟨#[114, 49]⟩, ⟨#[114, 50]⟩, ⟨#[114, 51]⟩, ⟨#[114, 52]⟩, ⟨#[114, 53]⟩, ⟨#[115, 112]⟩, ⟨#[112, 99]⟩]
def opL : List ByteArray := E0 :: wOp
def keptL : List ByteArray := wOp ++ wRg
/-- Is a text a kept word? -/
def keptB (s : ByteArray) : Bool := hasS keptL s
theorem keptB_op {s : ByteArray} (h0 : s.size ≠ 0) {k : Nat} (hk : k < 24) (he : eqS (opL.getD k E0) s = true) : keptB s = true := by
  have h1 : s ∈ opL := hasS_iff.1 (hasS_hit (L := opL) hk he)
  unfold keptB
  rw [hasS_iff]
  unfold opL at h1
  rcases List.mem_cons.1 h1 with e | h
  · rw [e] at h0; exact absurd rfl h0
  · exact List.mem_append_left _ h
theorem keptB_rg {s : ByteArray} {k : Nat} (hk : k < 8) (he : eqS (wRg.getD k E0) s = true) : keptB s = true := by
  have h1 : s ∈ wRg := hasS_iff.1 (hasS_hit (L := wRg) hk he)
  unfold keptB
  rw [hasS_iff]
  exact List.mem_append_right _ h1
theorem keptB_no {s : ByteArray} (h1 : ∀ k, k < 24 → eqS (opL.getD k E0) s = false) (h2 : ∀ k, k < 8 → eqS (wRg.getD k E0) s = false) : keptB s = false := by
  cases h : keptB s
  · rfl
  · unfold keptB at h
    rw [hasS_iff] at h
    rcases List.mem_append.1 h with h | h
    · have e := hasS_iff.2 (List.mem_cons_of_mem E0 h)
      rw [hasS_miss (L := E0 :: wOp) h1] at e
      cases e
    · have e := hasS_iff.2 h
      rw [hasS_miss (L := wRg) h2] at e
      cases e
theorem keptB_empty : keptB ⟨#[]⟩ = false := by decide +kernel

/-- Where a text stands among these, or -1. -/
def atV (L : List ByteArray) (s : ByteArray) : Int := if hasS L s = true then ((L.findIdx (fun t => eqS t s) : Nat) : Int) else -1
theorem atV_yes {L : List ByteArray} {s : ByteArray} (h : hasS L s = true) : 0 ≤ atV L s := by unfold atV; rw [if_pos h]; omega
theorem atV_no {L : List ByteArray} {s : ByteArray} (h : hasS L s = false) : atV L s = -1 := by unfold atV; rw [h]; rfl
theorem atV_hit {L : List ByteArray} {s : ByteArray} {k : Nat} (hk : k < L.length) (hm : ∀ j, j < k → eqS (L.getD j E0) s = false) (he : eqS (L.getD k E0) s = true) : atV L s = k := by
  unfold atV
  rw [if_pos (hasS_hit hk he)]
  have : L.findIdx (fun t => eqS t s) = k := by
    rw [List.findIdx_eq hk]
    refine ⟨?_, fun j hj => ?_⟩
    · rw [List.getD_eq_getElem?_getD, List.getElem?_eq_getElem hk] at he
      exact he
    · have := hm j hj
      rw [List.getD_eq_getElem?_getD, List.getElem?_eq_getElem (by omega)] at this
      exact this
  rw [this]
/-- A row of texts. -/
def RdS (w : World) (g : Nat) (L : List ByteArray) : Prop := ∀ j, j < L.length → w.cell? ⟨g, j, none⟩ = some (.string (L.getD j E0))

set_option maxHeartbeats 400000 in
theorem at_any (L : List ByteArray) (s : ByteArray) (g n cap : Nat) (w : World) (hn : L.length = n) (hm : n ≤ 1000000) (hr : RdS w g L) : Calls Tryd.prog 81 #[.slice (some ⟨g, 0, none⟩) n cap, .string s] w fun e w' => e = .returned (.int .i64 (atV L s)) ∧ w' = w := by
  obtain ⟨v, hv⟩ : ∃ v, atV L s = v := ⟨_, rfl⟩
  have HIT := hide (fun k (hk : k < n) hm he => (atV_hit (L := L) (s := s) (k := k) (by omega) hm he).symm.trans hv)
  have MISS := hide (fun (h : ∀ k, k < n → eqS (L.getD k E0) s = false) => (atV_no (L := L) (s := s) (hasS_miss (fun k hk => h k (by omega)))).symm.trans hv)
  have RD := hide (fun j (hj : j < n) => hr j (by omega))
  rw [hv]
  clear hv hr
  go_enter Tryd.func81, Tryd.ntmps81
  go_wp2
  go_loop [5] (fun i => ∃ k : Nat, i = .int .i64 k ∧ k ≤ n ∧ Hid (∀ j, j < k → eqS (L.getD j E0) s = false)) (fun i => n - (intOf i).toNat)
  case atStart => exact ⟨0, rfl, by omega, fun j hj => by omega⟩
  case round =>
    obtain ⟨k, rfl, hk, hd⟩ := hrel
    by_cases hlt : k < n
    · have hc := unhide RD k hlt
      have H1 := hide (unhide HIT k hlt hd.out)
      have H2 := hide (show eqS (L.getD k E0) s = false → ∀ j, j < k + 1 → eqS (L.getD j E0) s = false from fun h j hj => by
        by_cases e : j = k
        · subst e; exact h
        · exact hd.out j (by omega))
      generalize L.getD k E0 = T at hc H1 H2
      clear hd
      cases hq : (T.toList == s.toList)
      · have E := hide (unhide H2 hq)
        clear H1 H2
        go_wp2
        go_round
        case rel => exact ⟨k + 1, by go_num, by omega, unhide E⟩
        case measure => simp [intOf]; omega
      · have E := hide (unhide H1 hq)
        clear H1 H2
        go_wp2
        go_ret
        exact ⟨by rw [← unhide E]; rfl, rfl⟩
    · have E := hide (unhide MISS (fun j hj => hd.out j (by omega)))
      clear hd
      go_wp2
      go_ret
      exact ⟨by rw [← unhide E]; rfl, rfl⟩
set_option maxHeartbeats 400000 in
theorem kept_any (w : World) : Calls Tryd.prog 102 #[] w fun e w' => e = .returned (.slice (some ⟨w.heap.size, 0, none⟩) 31 31) ∧ RdS w' w.heap.size keptL ∧ Below w.heap.size w w' := by
  have HR := hide (show RdS (w.alloc (.cells (keptL.map Value.string).toArray 9)) w.heap.size keptL from fun j hj => by
    rw [World.cell?_alloc_at _ _ _ _ rfl, List.getElem?_toArray, List.getElem?_map]
    rw [List.getElem?_eq_getElem hj, List.getD_eq_getElem?_getD, List.getElem?_eq_getElem hj]
    rfl)
  have HB := hide ((Below.refl w.heap.size w).alloc (Nat.le_refl _) (.cells (keptL.map Value.string).toArray 9))
  go_enter Tryd.func102, Tryd.ntmps102
  go_wp2
  go_ret
  exact ⟨rfl, unhide HR, unhide HB⟩
end Go.Proofs.YtkolflcjkofleaaDoor

namespace Go.Proofs.YtkolflcjkofleaaDoor
open Go.ChangeShapes Go.WideShapes Go.ChangeAt Go.RowKit
set_option linter.unusedVariables false
set_option maxRecDepth 8000

def opC : Array Value := (opL.map Value.string).toArray
def rgC : Array Value := (wRg.map Value.string).toArray
/-- The program's tables of kept words stand as its text lays them. -/
def TabK (w : World) : Prop := (∃ t fr, w.heap[0]? = some (.cells opC t fr)) ∧ (∃ t fr, w.heap[1]? = some (.cells rgC t fr))
theorem TabK.later {w w' : World} {B : Nat} (h : TabK w) (hb : Below B w w') (h0 : 0 < B) (h1 : 1 < B) : TabK w' := by
  obtain ⟨⟨t, f, e⟩, ⟨t', f', e'⟩⟩ := h
  exact ⟨⟨t, f, (hb.block _ h0).trans e⟩, ⟨t', f', (hb.block _ h1).trans e'⟩⟩
theorem TabK.lt {w : World} (h : TabK w) : 0 < w.heap.size ∧ 1 < w.heap.size := by
  obtain ⟨⟨t, f, e⟩, ⟨t', f', e'⟩⟩ := h
  exact ⟨(Array.getElem?_eq_some_iff.1 e).1, (Array.getElem?_eq_some_iff.1 e').1⟩
theorem TabK.next {w w' : World} (h : TabK w) (hb : Below w.heap.size w w') : TabK w' := h.later hb h.lt.1 h.lt.2
theorem ixO_0 (w : World) : (Instr.index 151 (.agg opC) (.int .i64 ((0 : Nat) : Int))).run Tryd.prog w = .ok (.string (opL.getD 0 E0)) w := by kernel_rfl
theorem ixO_1 (w : World) : (Instr.index 151 (.agg opC) (.int .i64 ((1 : Nat) : Int))).run Tryd.prog w = .ok (.string (opL.getD 1 E0)) w := by kernel_rfl
theorem ixO_2 (w : World) : (Instr.index 151 (.agg opC) (.int .i64 ((2 : Nat) : Int))).run Tryd.prog w = .ok (.string (opL.getD 2 E0)) w := by kernel_rfl
theorem ixO_3 (w : World) : (Instr.index 151 (.agg opC) (.int .i64 ((3 : Nat) : Int))).run Tryd.prog w = .ok (.string (opL.getD 3 E0)) w := by kernel_rfl
theorem ixO_4 (w : World) : (Instr.index 151 (.agg opC) (.int .i64 ((4 : Nat) : Int))).run Tryd.prog w = .ok (.string (opL.getD 4 E0)) w := by kernel_rfl
theorem ixO_5 (w : World) : (Instr.index 151 (.agg opC) (.int .i64 ((5 : Nat) : Int))).run Tryd.prog w = .ok (.string (opL.getD 5 E0)) w := by kernel_rfl
theorem ixO_6 (w : World) : (Instr.index 151 (.agg opC) (.int .i64 ((6 : Nat) : Int))).run Tryd.prog w = .ok (.string (opL.getD 6 E0)) w := by kernel_rfl
theorem ixO_7 (w : World) : (Instr.index 151 (.agg opC) (.int .i64 ((7 : Nat) : Int))).run Tryd.prog w = .ok (.string (opL.getD 7 E0)) w := by kernel_rfl
theorem ixO_8 (w : World) : (Instr.index 151 (.agg opC) (.int .i64 ((8 : Nat) : Int))).run Tryd.prog w = .ok (.string (opL.getD 8 E0)) w := by kernel_rfl
theorem ixO_9 (w : World) : (Instr.index 151 (.agg opC) (.int .i64 ((9 : Nat) : Int))).run Tryd.prog w = .ok (.string (opL.getD 9 E0)) w := by kernel_rfl
theorem ixO_10 (w : World) : (Instr.index 151 (.agg opC) (.int .i64 ((10 : Nat) : Int))).run Tryd.prog w = .ok (.string (opL.getD 10 E0)) w := by kernel_rfl
theorem ixO_11 (w : World) : (Instr.index 151 (.agg opC) (.int .i64 ((11 : Nat) : Int))).run Tryd.prog w = .ok (.string (opL.getD 11 E0)) w := by kernel_rfl
theorem ixO_12 (w : World) : (Instr.index 151 (.agg opC) (.int .i64 ((12 : Nat) : Int))).run Tryd.prog w = .ok (.string (opL.getD 12 E0)) w := by kernel_rfl
theorem ixO_13 (w : World) : (Instr.index 151 (.agg opC) (.int .i64 ((13 : Nat) : Int))).run Tryd.prog w = .ok (.string (opL.getD 13 E0)) w := by kernel_rfl
theorem ixO_14 (w : World) : (Instr.index 151 (.agg opC) (.int .i64 ((14 : Nat) : Int))).run Tryd.prog w = .ok (.string (opL.getD 14 E0)) w := by kernel_rfl
theorem ixO_15 (w : World) : (Instr.index 151 (.agg opC) (.int .i64 ((15 : Nat) : Int))).run Tryd.prog w = .ok (.string (opL.getD 15 E0)) w := by kernel_rfl
theorem ixO_16 (w : World) : (Instr.index 151 (.agg opC) (.int .i64 ((16 : Nat) : Int))).run Tryd.prog w = .ok (.string (opL.getD 16 E0)) w := by kernel_rfl
theorem ixO_17 (w : World) : (Instr.index 151 (.agg opC) (.int .i64 ((17 : Nat) : Int))).run Tryd.prog w = .ok (.string (opL.getD 17 E0)) w := by kernel_rfl
theorem ixO_18 (w : World) : (Instr.index 151 (.agg opC) (.int .i64 ((18 : Nat) : Int))).run Tryd.prog w = .ok (.string (opL.getD 18 E0)) w := by kernel_rfl
theorem ixO_19 (w : World) : (Instr.index 151 (.agg opC) (.int .i64 ((19 : Nat) : Int))).run Tryd.prog w = .ok (.string (opL.getD 19 E0)) w := by kernel_rfl
theorem ixO_20 (w : World) : (Instr.index 151 (.agg opC) (.int .i64 ((20 : Nat) : Int))).run Tryd.prog w = .ok (.string (opL.getD 20 E0)) w := by kernel_rfl
theorem ixO_21 (w : World) : (Instr.index 151 (.agg opC) (.int .i64 ((21 : Nat) : Int))).run Tryd.prog w = .ok (.string (opL.getD 21 E0)) w := by kernel_rfl
theorem ixO_22 (w : World) : (Instr.index 151 (.agg opC) (.int .i64 ((22 : Nat) : Int))).run Tryd.prog w = .ok (.string (opL.getD 22 E0)) w := by kernel_rfl
theorem ixO_23 (w : World) : (Instr.index 151 (.agg opC) (.int .i64 ((23 : Nat) : Int))).run Tryd.prog w = .ok (.string (opL.getD 23 E0)) w := by kernel_rfl
theorem ixO (k : Nat) (h : k < 24) (w : World) : (Instr.index 151 (.agg opC) (.int .i64 k)).run Tryd.prog w = .ok (.string (opL.getD k E0)) w := by
  have hk : k = 0 ∨ k = 1 ∨ k = 2 ∨ k = 3 ∨ k = 4 ∨ k = 5 ∨ k = 6 ∨ k = 7 ∨ k = 8 ∨ k = 9 ∨ k = 10 ∨ k = 11 ∨ k = 12 ∨ k = 13 ∨ k = 14 ∨ k = 15 ∨ k = 16 ∨ k = 17 ∨ k = 18 ∨ k = 19 ∨ k = 20 ∨ k = 21 ∨ k = 22 ∨ k = 23 := by omega
  rcases hk with rfl | rfl | rfl | rfl | rfl | rfl | rfl | rfl | rfl | rfl | rfl | rfl | rfl | rfl | rfl | rfl | rfl | rfl | rfl | rfl | rfl | rfl | rfl | rfl
  · exact ixO_0 w
  · exact ixO_1 w
  · exact ixO_2 w
  · exact ixO_3 w
  · exact ixO_4 w
  · exact ixO_5 w
  · exact ixO_6 w
  · exact ixO_7 w
  · exact ixO_8 w
  · exact ixO_9 w
  · exact ixO_10 w
  · exact ixO_11 w
  · exact ixO_12 w
  · exact ixO_13 w
  · exact ixO_14 w
  · exact ixO_15 w
  · exact ixO_16 w
  · exact ixO_17 w
  · exact ixO_18 w
  · exact ixO_19 w
  · exact ixO_20 w
  · exact ixO_21 w
  · exact ixO_22 w
  · exact ixO_23 w
theorem ixR_0 (w : World) : (Instr.index 152 (.agg rgC) (.int .i64 ((0 : Nat) : Int))).run Tryd.prog w = .ok (.string (wRg.getD 0 E0)) w := by kernel_rfl
theorem ixR_1 (w : World) : (Instr.index 152 (.agg rgC) (.int .i64 ((1 : Nat) : Int))).run Tryd.prog w = .ok (.string (wRg.getD 1 E0)) w := by kernel_rfl
theorem ixR_2 (w : World) : (Instr.index 152 (.agg rgC) (.int .i64 ((2 : Nat) : Int))).run Tryd.prog w = .ok (.string (wRg.getD 2 E0)) w := by kernel_rfl
theorem ixR_3 (w : World) : (Instr.index 152 (.agg rgC) (.int .i64 ((3 : Nat) : Int))).run Tryd.prog w = .ok (.string (wRg.getD 3 E0)) w := by kernel_rfl
theorem ixR_4 (w : World) : (Instr.index 152 (.agg rgC) (.int .i64 ((4 : Nat) : Int))).run Tryd.prog w = .ok (.string (wRg.getD 4 E0)) w := by kernel_rfl
theorem ixR_5 (w : World) : (Instr.index 152 (.agg rgC) (.int .i64 ((5 : Nat) : Int))).run Tryd.prog w = .ok (.string (wRg.getD 5 E0)) w := by kernel_rfl
theorem ixR_6 (w : World) : (Instr.index 152 (.agg rgC) (.int .i64 ((6 : Nat) : Int))).run Tryd.prog w = .ok (.string (wRg.getD 6 E0)) w := by kernel_rfl
theorem ixR_7 (w : World) : (Instr.index 152 (.agg rgC) (.int .i64 ((7 : Nat) : Int))).run Tryd.prog w = .ok (.string (wRg.getD 7 E0)) w := by kernel_rfl
theorem ixR (k : Nat) (h : k < 8) (w : World) : (Instr.index 152 (.agg rgC) (.int .i64 k)).run Tryd.prog w = .ok (.string (wRg.getD k E0)) w := by
  have hk : k = 0 ∨ k = 1 ∨ k = 2 ∨ k = 3 ∨ k = 4 ∨ k = 5 ∨ k = 6 ∨ k = 7 := by omega
  rcases hk with rfl | rfl | rfl | rfl | rfl | rfl | rfl | rfl
  · exact ixR_0 w
  · exact ixR_1 w
  · exact ixR_2 w
  · exact ixR_3 w
  · exact ixR_4 w
  · exact ixR_5 w
  · exact ixR_6 w
  · exact ixR_7 w
theorem szO : (Tryd.prog.info? 151).map (·.size) = some opC.size := by kernel_rfl
theorem szR : (Tryd.prog.info? 152).map (·.size) = some rgC.size := by kernel_rfl

set_option maxHeartbeats 1000000 in
theorem keptI_any (s : ByteArray) (w : World) (ht : TabK w) : Calls Tryd.prog 95 #[.string s] w fun e w' => e = .returned (.bool (keptB s)) ∧ w' = w := by
  by_cases h0 : s.size = 0
  · obtain rfl := empty_of s h0
    rw [keptB_empty]
    go_enter Tryd.func95, Tryd.ntmps95
    go_wp2
    go_ret
    exact ⟨rfl, rfl⟩
  · have hemp := emp_no s h0
    obtain ⟨⟨t0, f0, R0⟩, ⟨t1, f1, R1⟩⟩ := ht
    obtain ⟨q, hq⟩ : ∃ q, keptB s = q := ⟨_, rfl⟩
    have HO := hide (fun k hk he => (keptB_op (s := s) h0 (k := k) hk he).symm.trans hq)
    have HR := hide (fun k hk he => (keptB_rg (s := s) (k := k) hk he).symm.trans hq)
    have HN := hide (fun h1 h2 => (keptB_no (s := s) h1 h2).symm.trans hq)
    rw [hq]
    have R0' := hide R0
    have R1' := hide R1
    clear hq R0 R1
    go_enter Tryd.func95, Tryd.ntmps95
    go_wp2_with (refine wpList_load_row rfl 151 _ rfl 0 rfl t0 opC f0 _ (unhide R0') Tryd.underlying151 rfl szO ?_)
    go_loop [10] (fun i => ∃ k : Nat, i = .int .i64 k ∧ k ≤ 24 ∧ Hid (∀ j, j < k → eqS (opL.getD j E0) s = false)) (fun i => 24 - (intOf i).toNat)
    case atStart => exact ⟨0, rfl, by omega, fun j hj => by omega⟩
    case round =>
      obtain ⟨k, rfl, hk, hd⟩ := hrel
      by_cases hlt : k < 24
      · have IX := hide (ixO k hlt)
        have H1 := hide (unhide HO k hlt)
        have H2 := hide (show eqS (opL.getD k E0) s = false → ∀ j, j < k + 1 → eqS (opL.getD j E0) s = false from fun h j hj => by
          by_cases e : j = k
          · subst e; exact h
          · exact hd.out j (by omega))
        generalize opL.getD k E0 = T at IX H1 H2
        clear hd HO HR HN
        cases hq : (T.toList == s.toList)
        · have E := hide (unhide H2 hq)
          clear H1 H2
          go_wp2_with (refine wpList_index_at rfl 151 _ _ rfl _ _ _ rfl rfl (unhide IX) ?_)
          go_round
          case rel => exact ⟨k + 1, by go_num, by omega, unhide E⟩
          case measure => simp [intOf]; omega
        · have E := hide (unhide H1 hq)
          clear H1 H2
          go_wp2_with (refine wpList_index_at rfl 151 _ _ rfl _ _ _ rfl rfl (unhide IX) ?_)
          go_ret
          exact ⟨by rw [← unhide E]; rfl, rfl⟩
      · have HN2 := hide (unhide HN (fun j hj => hd.out j (by omega)))
        clear hd HN HO
        go_wp2_with (refine wpList_load_row rfl 152 _ rfl 1 rfl t1 rgC f1 _ (unhide R1') Tryd.underlying152 rfl szR ?_)
        go_loop [18] (fun i => ∃ k : Nat, i = .int .i64 k ∧ k ≤ 8 ∧ Hid (∀ j, j < k → eqS (wRg.getD j E0) s = false)) (fun i => 8 - (intOf i).toNat)
        case atStart => exact ⟨0, rfl, by omega, fun j hj => by omega⟩
        case round =>
          clear hlt hk
          obtain ⟨k, rfl, hk, hd⟩ := hrel
          by_cases hlt : k < 8
          · have IX := hide (ixR k hlt)
            have H1 := hide (unhide HR k hlt)
            have H2 := hide (show eqS (wRg.getD k E0) s = false → ∀ j, j < k + 1 → eqS (wRg.getD j E0) s = false from fun h j hj => by
              by_cases e : j = k
              · subst e; exact h
              · exact hd.out j (by omega))
            generalize wRg.getD k E0 = T at IX H1 H2
            clear hd HR HN2
            cases hq : (T.toList == s.toList)
            · have E := hide (unhide H2 hq)
              clear H1 H2
              go_wp2_with (refine wpList_index_at rfl 152 _ _ rfl _ _ _ rfl rfl (unhide IX) ?_)
              go_round
              case rel => exact ⟨k + 1, by go_num, by omega, unhide E⟩
              case measure => simp [intOf]; omega
            · have E := hide (unhide H1 hq)
              clear H1 H2
              go_wp2_with (refine wpList_index_at rfl 152 _ _ rfl _ _ _ rfl rfl (unhide IX) ?_)
              go_ret
              exact ⟨by rw [← unhide E]; rfl, rfl⟩
          · have E := hide (unhide HN2 (fun j hj => hd.out j (by omega)))
            clear hd HN2 HR
            go_wp2
            go_ret
            exact ⟨by rw [← unhide E]; rfl, rfl⟩

/-- The marks. -/
def mkL : List UInt8 := [58, 61, 44, 40, 41, 43, 45, 42, 47, 38, 124, 35, 64, 46, 60, 62]
def mkA : ByteArray := ⟨#[58, 61, 44, 40, 41, 43, 45, 42, 47, 38, 124, 35, 64, 46, 60, 62]⟩
/-- Is a text a mark? -/
def markB : List UInt8 → Bool
  | [c] => mkL.contains c
  | _ => false
theorem mkA_sub (k : Nat) (h : k < 16) : (mkA.extract k (k + 1)).data.toList = [mkL.getD k 0] := by
  have hk : k = 0 ∨ k = 1 ∨ k = 2 ∨ k = 3 ∨ k = 4 ∨ k = 5 ∨ k = 6 ∨ k = 7 ∨ k = 8 ∨ k = 9 ∨ k = 10 ∨ k = 11 ∨ k = 12 ∨ k = 13 ∨ k = 14 ∨ k = 15 := by omega
  rcases hk with rfl | rfl | rfl | rfl | rfl | rfl | rfl | rfl | rfl | rfl | rfl | rfl | rfl | rfl | rfl | rfl <;> decide +kernel
theorem markB_hit {s : ByteArray} {k : Nat} (h : k < 16) (he : eqS s (mkA.extract k (k + 1)) = true) : markB s.data.toList = true := by
  rw [eqS_iff] at he
  rw [he, mkA_sub k h]
  show mkL.contains _ = true
  rw [List.contains_iff_mem, List.getD_eq_getElem?_getD, List.getElem?_eq_getElem (show k < mkL.length from h)]
  exact List.getElem_mem _
theorem markB_miss {s : ByteArray} (h : ∀ k, k < 16 → eqS s (mkA.extract k (k + 1)) = false) : markB s.data.toList = false := by
  cases hm : markB s.data.toList
  · rfl
  · exfalso
    match hl : s.data.toList, hm with
    | [c], hm =>
      have hm' : mkL.contains c = true := hm
      rw [List.contains_iff_mem] at hm'
      obtain ⟨k, hk, rfl⟩ := List.getElem_of_mem hm'
      have hk' : k < 16 := hk
      have e : s = mkA.extract k (k + 1) := by
        apply bytes_inj
        rw [hl, mkA_sub k hk', List.getD_eq_getElem?_getD, List.getElem?_eq_getElem hk]
        rfl
      have := h k hk'
      rw [(eqS_iff _ _).2 e] at this
      cases this
end Go.Proofs.YtkolflcjkofleaaDoor

namespace Go.Proofs.YtkolflcjkofleaaDoor
open Go.ChangeShapes Go.WideShapes Go.ChangeAt Go.RowKit
set_option linter.unusedVariables false
set_option maxRecDepth 8000

def ixM (c : UInt8) : Int := Lib.indexByte mkL c
theorem ixM_fin : ∀ i : Fin 256, (-1 ≤ ixM (UInt8.ofNat i.val)) ∧ decide (0 ≤ ixM (UInt8.ofNat i.val)) = mkL.contains (UInt8.ofNat i.val) := by decide +kernel
theorem ixM_all (c : UInt8) : -1 ≤ ixM c ∧ decide (0 ≤ ixM c) = mkL.contains c := by
  have h := ixM_fin ⟨c.toNat, c.toNat_lt⟩
  have e : UInt8.ofNat c.toNat = c := UInt8.ofNat_toNat
  simp only [e] at h
  exact h
theorem one_of (s : ByteArray) (h : s.size = 1) : s.data.toList = [s.data.toList.getD 0 0] := by
  have hl := size_len s
  match hs : s.data.toList with
  | [] => rw [hs] at hl; simp at hl; omega
  | [c] => rfl
  | _ :: _ :: _ => rw [hs] at hl; simp at hl; omega

/-- A dot and a name's form. -/
def dotB : List UInt8 → Bool
  | 46 :: t => formB t
  | _ => false
theorem dotB_cons (c : UInt8) (t : List UInt8) : dotB (c :: t) = (c == 46 && formB t) := by
  by_cases h : c = 46
  · subst h; rfl
  · rw [beq_eq_false_iff_ne.2 h, Bool.false_and]
    unfold dotB
    split
    · rename_i e; exact absurd (List.cons.inj e).1 h
    · rfl
theorem rest_of (s : ByteArray) : (s.extract 1 s.size).data.toList = s.data.toList.drop 1 := by
  rw [ByteArray.data_extract, Array.toList_extract, List.extract_eq_take_drop]
  rw [List.take_of_length_le]
  rw [List.length_drop, size_len]
  omega
theorem head_of (s : ByteArray) (h : s.size ≠ 0) : s.data.toList = s.data.toList.getD 0 0 :: s.data.toList.drop 1 := by
  have hl := size_len s
  match hs : s.data.toList with
  | [] => rw [hs] at hl; simp at hl; omega
  | _ :: _ => rfl
theorem rest_size (s : ByteArray) : (s.extract 1 s.size).size = s.size - 1 := by
  rw [← size_len, rest_of, List.length_drop, size_len]
theorem first_of (s : ByteArray) (h : s.size ≠ 0) : (s.extract 0 1).data.toList = [s.data.toList.getD 0 0] := by
  rw [ByteArray.data_extract, Array.toList_extract, List.extract_eq_take_drop, List.drop_zero]
  rw [head_of s h]
  rfl
theorem dot_eq (s : ByteArray) (h : s.size ≠ 0) : eqS (s.extract 0 1) ⟨#[46]⟩ = (bAt s.data.toList 0 == 46) := by
  rw [Bool.eq_iff_iff, eqS_iff, beq_iff_eq]
  unfold bAt
  constructor
  · intro e
    have := first_of s h
    rw [e] at this
    have h2 : (46 : UInt8) = s.data.toList.getD 0 0 := by simpa using this
    rw [← h2]; rfl
  · intro e
    apply bytes_inj
    rw [first_of s h]
    have : s.data.toList.getD 0 0 = 46 := by
      apply UInt8.toNat_inj.1
      show _ = 46
      omega
    rw [this]
/-- A token. -/
structure Tk where
  k : Int
  n : Int
  s : ByteArray
def Tk.cs (t : Tk) : Array Value := #[.int .i64 t.k, .int .i64 t.n, .string t.s]
def Tk.v (t : Tk) : Value := .agg t.cs
def nameB (s : ByteArray) : Bool := formB s.data.toList && !keptB s
/-- Is a token right? -/
def Tk.ok (t : Tk) : Bool :=
  if t.k == 2 then inB t.n 0 65535 && decide (t.s.size = 0)
  else if t.n != 0 then false
  else if t.k == 1 then nameB t.s
  else if t.k == 3 then dotB t.s.data.toList
  else if t.k == 4 then markB t.s.data.toList
  else if t.k == 5 then keptB t.s
  else false
set_option maxHeartbeats 1000000 in
theorem nameI_any (s : ByteArray) (w : World) (hmax : s.size ≤ 1099511627776) (ht : TabK w) : Calls Tryd.prog 86 #[.string s] w fun e w' => e = .returned (.bool (nameB s)) ∧ w' = w := by
  have H1 := hide (formI_any s w hmax)
  have H2 := hide (keptI_any s w ht)
  unfold nameB
  generalize formB s.data.toList = p at *
  generalize keptB s = q at *
  clear ht
  cases p
  · go_enter Tryd.func86, Tryd.ntmps86
    go_wp2_with (first | (go_at_call 94; refine (unhide H1).mono ?_; rintro e w' ⟨rfl, rfl⟩) | (go_at_call 95; refine (unhide H2).mono ?_; rintro e w' ⟨rfl, rfl⟩))
    go_ret
    exact ⟨rfl, rfl⟩
  · go_enter Tryd.func86, Tryd.ntmps86
    go_wp2_with (first | (go_at_call 94; refine (unhide H1).mono ?_; rintro e w' ⟨rfl, rfl⟩) | (go_at_call 95; refine (unhide H2).mono ?_; rintro e w' ⟨rfl, rfl⟩))
    go_ret
    exact ⟨rfl, rfl⟩
set_option maxHeartbeats 1000000 in
theorem nameS_any (s : ByteArray) (w : World) (hmax : s.size ≤ 1099511627776) : Calls Tryd.prog 98 #[.string s] w fun e w' => e = .returned (.bool (nameB s)) ∧ Below w.heap.size w w' := by
  have H1 := hide (formS_any s w hmax)
  have HY := hide (fun h => atV_yes (L := keptL) (s := s) h)
  have HN := hide (fun h => atV_no (L := keptL) (s := s) h)
  have HA := hide (fun w1 (hr : RdS w1 w.heap.size keptL) => at_any keptL s w.heap.size 31 31 w1 rfl (by omega) hr)
  have HK := hide (kept_any w)
  unfold nameB keptB
  generalize formB s.data.toList = p at *
  generalize hasS keptL s = q at *
  generalize atV keptL s = v at *
  cases p
  · go_enter Tryd.func98, Tryd.ntmps98
    go_wp2_with (go_at_call 101; refine (unhide H1).mono ?_; rintro e w' ⟨rfl, rfl⟩)
    go_ret
    exact ⟨rfl, Below.refl _ _⟩
  · have E := hide (show (decide (v < 0)) = !q by
      cases q
      · rw [unhide HN rfl]; rfl
      · have := unhide HY rfl
        simp
        omega)
    go_enter Tryd.func98, Tryd.ntmps98
    go_wp2_with (first | (go_at_call 101; refine (unhide H1).mono ?_; rintro e w' ⟨rfl, rfl⟩) | (go_at_call 102; refine (unhide HK).mono ?_; rintro e w1 ⟨rfl, hr1, hb1⟩) | (go_at_call 81; refine (unhide HA _ hr1).mono ?_; rintro e w' ⟨rfl, rfl⟩))
    go_ret
    exact ⟨by rw [← unhide E]; rfl, hb1⟩

theorem box3 (w : World) (t : Tk) (ty : TypeId) : (w.alloc (.cells t.cs ty)).cell? ⟨w.heap.size, 0, none⟩ = some (.int .i64 t.k) ∧ (w.alloc (.cells t.cs ty)).cell? ⟨w.heap.size, 1, none⟩ = some (.int .i64 t.n) ∧ (w.alloc (.cells t.cs ty)).cell? ⟨w.heap.size, 2, none⟩ = some (.string t.s) := by
  refine ⟨?_, ?_, ?_⟩ <;> (rw [World.cell?_alloc_at _ _ _ _ rfl]; rfl)
theorem below_new (w : World) (o : Obj) : Below w.heap.size w (w.alloc o) := (Below.refl _ _).alloc (Nat.le_refl _) _
theorem emp_yes (s : ByteArray) (h : s.size = 0) : s.toList.isEmpty = true := by rw [← decide_eq_emptyBytes]; exact decide_eq_true (empty_of s h)
end Go.Proofs.YtkolflcjkofleaaDoor

namespace Go.Proofs.YtkolflcjkofleaaDoor
open Go.ChangeShapes Go.WideShapes Go.ChangeAt Go.RowKit
set_option linter.unusedVariables false
set_option maxRecDepth 8000

theorem own : ownKnob Tryd.prog.godebug = none := by kernel_rfl
theorem laidOut : laidOutB Tryd.prog = true := by kernel_rfl
section
variable {H : Type} {enc : TypeId × Value → H} {W : World} {b0 base : Nat} {spare : TypeId → Bool} {held : Bool}
end

/-- A table of texts as a row lists it. -/
def strData {H : Type} (L : List ByteArray) : DataW H := .agg (L.map fun s => .lit (.string s.data.toList))
theorem cells_of_strs {H : Type} {enc : TypeId × Value → H} {P : Program} {w : World} {base : Nat} {sp : Nat → Bool} {held : Bool} {fuel : Nat} {t e : TypeId} {n : Nat} {cs : List Value} {L : List ByteArray} {p : List MemPlace}
    (ht : P.underlying t = some (.array n e)) (he : P.underlying e = some .string) (hce : P.cellsOf e = 1) (hct : P.cellsOf t = n)
    (h : DataW.trod enc P w base sp held fuel t cs = some (strData L, p)) : cs = L.map Value.string := by
  cases fuel with
  | zero => simp [DataW.trod] at h
  | succ fuel =>
    simp only [DataW.trod, ht, hce, hct, Nat.mul_one] at h
    split at h
    · rename_i hl
      obtain ⟨xs, hm, hx⟩ := Option.map_eq_some_iff.1 h
      have hxs : xs.map (·.1) = L.map fun s => (DataW.lit (.string s.data.toList) : DataW H) := by
        have := congrArg Prod.fst hx
        simpa [strData] using this
      have hxl : xs.length = n := by simpa using Lib.mapM_length hm
      have hzl : L.length = n := by
        have := congrArg List.length hxs
        simp at this
        omega
      apply List.ext_getElem?
      intro i
      by_cases hi : i < n
      · obtain ⟨b, hb, hf⟩ := Lib.mapM_at hm i i (by simp [hi])
        obtain ⟨z, hc, rfl, _⟩ := DataW.trod_string he hf
        have h1 : cs[i]? = some (.string z) := by
          have := congrArg (·[0]?) hc
          simpa [List.getElem?_take, List.getElem?_drop] using this
        have h2 : (xs.map (·.1))[i]? = some (DataW.lit (.string z.data.toList) : DataW H) := by simp [hb]
        rw [hxs] at h2
        simp only [List.getElem?_map, Option.map_eq_some_iff, DataW.lit.injEq, Lit.string.injEq] at h2
        obtain ⟨z', hz', e⟩ := h2
        obtain rfl := bytes_inj e
        simp [h1, hz']
      · rw [List.getElem?_eq_none (by omega), List.getElem?_eq_none (by simp; omega)]
    · cases h
theorem strs_of_head {P : Program} {W : World} {name : String} {L : List ByteArray} {rest : List (String × DataW Unit)} {g : Nat} {t e : TypeId} {n : Nat}
    (hg : P.globalNamed name = some g) (hty : (P.globals[g]?).map (·.type) = some t) (ht : P.underlying t = some (.array n e)) (he : P.underlying e = some .string) (hce : P.cellsOf e = 1) (hct : P.cellsOf t = n)
    (h : laidMet P ((name, strData L) :: rest) W) : ∃ u fr, W.heap[g]? = some (.cells (L.map Value.string).toArray u fr) := by
  obtain ⟨ps, ⟨g', t', cs, fuel, p, q, hg', ht', hvar, hd, _, _⟩, _⟩ := h
  obtain rfl := Option.some.inj (hg.symm.trans hg')
  obtain rfl := Option.some.inj (hty.symm.trans ht')
  have hcs := cells_of_strs ht he hce hct hd
  unfold World.var? at hvar
  rw [hg] at hvar
  simp only [Option.bind_some] at hvar
  split at hvar
  · rename_i c u fr hh
    cases hvar
    exact ⟨u, fr, by rw [hh, ← hcs]⟩
  · cases hvar
theorem gOp : Tryd.prog.globalNamed "loop.example/g00329/impl.opWords" = some 0 := by kernel_rfl
theorem tOp : (Tryd.prog.globals[0]?).map (·.type) = some 151 := by kernel_rfl
theorem gRg : Tryd.prog.globalNamed "loop.example/g00329/impl.regWords" = some 1 := by kernel_rfl
theorem tRg : (Tryd.prog.globals[1]?).map (·.type) = some 152 := by kernel_rfl
theorem opD_eq : (Rows.laid_loop_example_g00329_impl_opWords : DataW Unit) = strData opL := by kernel_rfl
theorem rgD_eq : (Rows.laid_loop_example_g00329_impl_regWords : DataW Unit) = strData wRg := by kernel_rfl
theorem tabK_of {W : World} (h : laidMet Tryd.prog [("loop.example/g00329/impl.opWords", Rows.laid_loop_example_g00329_impl_opWords), ("loop.example/g00329/impl.regWords", Rows.laid_loop_example_g00329_impl_regWords)] W) : TabK W := by
  rw [opD_eq, rgD_eq] at h
  exact ⟨strs_of_head gOp tOp Tryd.underlying151 Tryd.underlying9 (by kernel_rfl) (by kernel_rfl) h, strs_of_head gRg tRg Tryd.underlying152 Tryd.underlying9 (by kernel_rfl) (by kernel_rfl) h.tail⟩
theorem tab_of_laid {W : World} (h : laidMetH Tryd.prog [("loop.example/g00329/impl.opWords", Rows.laid_loop_example_g00329_impl_opWords), ("loop.example/g00329/impl.regWords", Rows.laid_loop_example_g00329_impl_regWords)] W) : TabK W := by
  rw [MakeChecks.laidMetH_plain _ _ _ (by kernel_rfl)] at h
  exact tabK_of h
end Go.Proofs.YtkolflcjkofleaaDoor

namespace Go.Proofs.YtkolflcjkofleaaDoor
open Go.ChangeShapes Go.WideShapes Go.ChangeAt Go.RowKit
set_option linter.unusedVariables false
set_option maxRecDepth 8000

/-- A term. -/
structure Ex where
  k : Int
  n : Int
  s : ByteArray
  l : List Ex
theorem Ex.ind {p : Ex → Prop} (h : ∀ k n s l, (∀ e ∈ l, p e) → p ⟨k, n, s, l⟩) (e : Ex) : p e := by
  obtain ⟨k, n, s, l⟩ := e
  exact h k n s l (fun e he => Ex.ind h e)
/-- How much a term holds. -/
def Ex.sz : Ex → Nat
  | ⟨_, _, s, l⟩ => s.size + l.length + (l.map Ex.sz).sum
theorem Ex.sz_eq (k n : Int) (s : ByteArray) (l : List Ex) : (Ex.mk k n s l).sz = s.size + l.length + (l.map Ex.sz).sum := by rw [Ex.sz]
/-- How deep a term is. -/
def Ex.dp : Ex → Nat
  | ⟨_, _, _, l⟩ => 1 + (l.map Ex.dp).foldr max 0
theorem Ex.dp_lt (k n : Int) (s : ByteArray) (l : List Ex) (e : Ex) (h : e ∈ l) : e.dp < (Ex.mk k n s l).dp := by
  rw [Ex.dp]
  have : ∀ l : List Ex, e ∈ l → e.dp ≤ (l.map Ex.dp).foldr max 0 := by
    intro l
    induction l with
    | nil => intro h; cases h
    | cons a l ih =>
      intro h
      rw [List.map_cons, List.foldr_cons]
      rcases List.mem_cons.1 h with rfl | h
      · exact Nat.le_max_left _ _
      · exact Nat.le_trans (ih h) (Nat.le_max_right _ _)
  have := this l h
  omega
def X0 : Ex := ⟨0, 0, ⟨#[]⟩, []⟩
def xAt (l : List Ex) (i : Nat) : Ex := l.getD i X0
/-- The parts of a term lie at a: every block of them from B on. -/
def RdX (w : World) (B : Nat) : Ex → Option Addr → Prop
  | ⟨_, _, _, l⟩, a => l = [] ∨ ∃ b off, a = some ⟨b, off, none⟩ ∧ B ≤ b ∧ b < w.heap.size ∧ ∀ x ∈ l, ∀ i, l[i]? = some x → w.cell? ⟨b, off + i * 4, none⟩ = some (.int .i64 x.k) ∧ w.cell? ⟨b, off + i * 4 + 1, none⟩ = some (.int .i64 x.n) ∧ w.cell? ⟨b, off + i * 4 + 2, none⟩ = some (.string x.s) ∧ ∃ c cap, w.cell? ⟨b, off + i * 4 + 3, none⟩ = some (.slice c x.l.length cap) ∧ RdX w B x c
/-- One part, as it lies. -/
def OneX (w : World) (B b at_ : Nat) (x : Ex) : Prop := w.cell? ⟨b, at_, none⟩ = some (.int .i64 x.k) ∧ w.cell? ⟨b, at_ + 1, none⟩ = some (.int .i64 x.n) ∧ w.cell? ⟨b, at_ + 2, none⟩ = some (.string x.s) ∧ ∃ c cap, w.cell? ⟨b, at_ + 3, none⟩ = some (.slice c x.l.length cap) ∧ RdX w B x c
theorem xAt_get {l : List Ex} {i : Nat} (h : i < l.length) : xAt l i = l[i] := by
  unfold xAt
  rw [List.getD_eq_getElem?_getD, List.getElem?_eq_getElem h]
  rfl
theorem xAt_mem {l : List Ex} {i : Nat} (h : i < l.length) : xAt l i ∈ l := by rw [xAt_get h]; exact List.getElem_mem _
theorem RdX_eq (w : World) (B : Nat) (e : Ex) (a : Option Addr) : RdX w B e a ↔ (e.l = [] ∨ ∃ b off, a = some ⟨b, off, none⟩ ∧ B ≤ b ∧ b < w.heap.size ∧ ∀ i, i < e.l.length → OneX w B b (off + i * 4) (xAt e.l i)) := by
  obtain ⟨k, n, s, l⟩ := e
  rw [RdX]
  refine or_congr Iff.rfl (exists_congr fun b => exists_congr fun off => and_congr Iff.rfl (and_congr Iff.rfl (and_congr Iff.rfl ⟨fun h i hi => ?_, fun h x hx i hi => ?_⟩)))
  · exact h _ (xAt_mem hi) i (by rw [xAt_get hi]; exact List.getElem?_eq_getElem hi)
  · obtain ⟨hl, e⟩ := List.getElem?_eq_some_iff.1 hi
    have := h i hl
    rw [xAt_get hl, e] at this
    exact this
/-- What is kept of the blocks from B on keeps what is read there. -/
theorem RdX.keep {w w' : World} {B : Nat} (hs : w.heap.size ≤ w'.heap.size) (hc : ∀ b o v, B ≤ b → b < w.heap.size → w.cell? ⟨b, o, none⟩ = some v → w'.cell? ⟨b, o, none⟩ = some v) (e : Ex) : ∀ a, RdX w B e a → RdX w' B e a := by
  induction e using Ex.ind with
  | h k n s l ih =>
    intro a h
    rw [RdX_eq] at h ⊢
    rcases h with h | ⟨b, off, ha, h1, h2, h3⟩
    · exact .inl h
    · refine .inr ⟨b, off, ha, h1, Nat.lt_of_lt_of_le h2 hs, fun i hi => ?_⟩
      obtain ⟨c1, c2, c3, c, cap, c4, c5⟩ := h3 i hi
      exact ⟨hc _ _ _ h1 h2 c1, hc _ _ _ h1 h2 c2, hc _ _ _ h1 h2 c3, c, cap, hc _ _ _ h1 h2 c4, ih _ (xAt_mem hi) _ c5⟩
theorem RdX.later {w w' : World} {B : Nat} {e : Ex} {a : Option Addr} (h : RdX w B e a) (hb : Below w.heap.size w w') : RdX w' B e a :=
  RdX.keep hb.size (fun b o v _ hlt hc => (hb.cell (p := ⟨b, o, none⟩) hlt).trans hc) e a h
theorem RdX.lower {w : World} {B C : Nat} (hC : C ≤ B) (e : Ex) : ∀ a, RdX w B e a → RdX w C e a := by
  induction e using Ex.ind with
  | h k n s l ih =>
    intro a h
    rw [RdX_eq] at h ⊢
    rcases h with h | ⟨b, off, ha, h1, h2, h3⟩
    · exact .inl h
    · refine .inr ⟨b, off, ha, Nat.le_trans hC h1, h2, fun i hi => ?_⟩
      obtain ⟨c1, c2, c3, c, cap, c4, c5⟩ := h3 i hi
      exact ⟨c1, c2, c3, c, cap, c4, ih _ (xAt_mem hi) _ c5⟩
/-- What all parts hold. -/
def szX (l : List Ex) : Nat := (l.map Ex.sz).sum
theorem szX_take (l : List Ex) (k : Nat) (h : k < l.length) : szX (l.take (k + 1)) = szX (l.take k) + (xAt l k).sz := by
  unfold szX
  rw [List.take_succ_eq_append_getElem h, List.map_append, List.sum_append, xAt_get h]
  simp
theorem szX_le (l : List Ex) (k : Nat) : szX (l.take k) ≤ szX l := by
  induction l generalizing k with
  | nil => simp [szX]
  | cons a r ih =>
    cases k with
    | zero => simp [szX]
    | succ k =>
      have := ih k
      unfold szX at this ⊢
      simp only [List.take_succ_cons, List.map_cons, List.sum_cons]
      omega
theorem sz_is (e : Ex) : e.sz = e.s.size + e.l.length + szX e.l := by obtain ⟨k, n, s, l⟩ := e; exact Ex.sz_eq k n s l
/-- Every text and list within can be counted. -/
def Fit : Ex → Prop
  | ⟨_, _, s, l⟩ => s.size ≤ 9223372036854775807 ∧ l.length ≤ 9223372036854775807 ∧ ∀ x ∈ l, Fit x
theorem Fit_eq (e : Ex) : Fit e ↔ (e.s.size ≤ 9223372036854775807 ∧ e.l.length ≤ 9223372036854775807 ∧ ∀ i, i < e.l.length → Fit (xAt e.l i)) := by
  obtain ⟨k, n, s, l⟩ := e
  rw [Fit]
  refine and_congr Iff.rfl (and_congr Iff.rfl ⟨fun h i hi => h _ (xAt_mem hi), fun h x hx => ?_⟩)
  obtain ⟨i, hi, rfl⟩ := List.getElem_of_mem hx
  have := h i hi
  rw [xAt_get hi] at this
  exact this
end Go.Proofs.YtkolflcjkofleaaDoor

namespace Go.Proofs.YtkolflcjkofleaaDoor
open Go.ChangeShapes Go.WideShapes Go.ChangeAt Go.RowKit
set_option linter.unusedVariables false
set_option maxRecDepth 8000

/-- A term's value, its parts lying at b. -/
def Ex.cs (e : Ex) (b : Option Addr) (cap : Nat) : Array Value := #[.int .i64 e.k, .int .i64 e.n, .string e.s, .slice b e.l.length cap]
section
variable {H : Type} {enc : TypeId × Value → H} {W : World} {b0 base : Nat} {spare : TypeId → Bool} {held : Bool}
theorem trod_four {P : Program} {t : TypeId} {f0 f1 f2 f3 : Field} {fuel : Nat} {cs : List Value} {x : DataW H × List MemPlace} (ht : P.underlying t = some (.struct #[f0, f1, f2, f3])) (h : DataW.trod enc P W base spare held fuel t cs = some x) :
    ∃ y0 y1 y2 y3 n, fuel = n + 1 ∧ cs.length = P.cellsOf t ∧ DataW.trod enc P W base spare held n f0.type ((cs.drop f0.offset).take (P.cellsOf f0.type)) = some y0 ∧ DataW.trod enc P W base spare held n f1.type ((cs.drop f1.offset).take (P.cellsOf f1.type)) = some y1 ∧ DataW.trod enc P W base spare held n f2.type ((cs.drop f2.offset).take (P.cellsOf f2.type)) = some y2 ∧ DataW.trod enc P W base spare held n f3.type ((cs.drop f3.offset).take (P.cellsOf f3.type)) = some y3 := by
  obtain ⟨xs, n, hf, rfl, hl, hlen, hfs⟩ := DataW.trod_struct ht h
  match xs, hlen with
  | [y0, y1, y2, y3], _ => exact ⟨y0, y1, y2, y3, n, hf, hl, by simpa using hfs 0 f0 rfl, by simpa using hfs 1 f1 rfl, by simpa using hfs 2 f2 rfl, by simpa using hfs 3 f3 rfl⟩
theorem trod_ex : ∀ (fuel : Nat) (cs : List Value) (x : DataW H × List MemPlace), DataW.trod enc Tryd.prog W base spare held fuel 44 cs = some x → ∃ (e : Ex) (b : Option Addr) (cap : Nat), cs = [.int .i64 e.k, .int .i64 e.n, .string e.s, .slice b e.l.length cap] ∧ RdX W 0 e b ∧ Fit e := by
  intro fuel
  induction fuel using Nat.strongRecOn with
  | ind fuel ih =>
    intro cs x h
    obtain ⟨y0, y1, y2, y3, n, hf, hl, h0, h1, h2, h3⟩ := trod_four Tryd.underlying44 h
    have hc : Tryd.prog.cellsOf 44 = 4 := by kernel_rfl
    have hc3 : Tryd.prog.cellsOf 3 = 1 := by kernel_rfl
    have hc9 : Tryd.prog.cellsOf 9 = 1 := by kernel_rfl
    have hcl : Tryd.prog.cellsOf 42 = 1 := by kernel_rfl
    rw [hc] at hl
    match cs, hl with
    | [c0, c1, c2, c3], _ =>
      obtain ⟨m, e0, _, w0⟩ := DataW.trod_int Tryd.underlying3 h0
      obtain ⟨r, e1, _, w1⟩ := DataW.trod_int Tryd.underlying3 h1
      obtain ⟨s, e2, _, w2⟩ := DataW.trod_string Tryd.underlying9 h2
      simp only [hc3, hc9] at e0 e1 e2
      simp at e0 e1 e2
      subst e0 e1 e2
      have hs9 : s.size ≤ 9223372036854775807 := by have := w2; unfold maxLen at this; omega
      rcases DataW.trod_slice Tryd.underlying42 h3 with ⟨hcs, _⟩ | ⟨a, len, cap, elems, rest, q, hq, hcs, _, hb, hl, hm, hel, hx, _, _⟩
      · simp only [hcl] at hcs
        simp at hcs
        subst hcs
        exact ⟨⟨m, r, s, []⟩, none, 0, rfl, (RdX_eq _ _ _ _).2 (.inl rfl), (Fit_eq _).2 ⟨hs9, by simp, fun i hi => by simp at hi⟩⟩
      · simp only [hcl] at hcs
        simp at hcs
        subst hcs
        have each : ∀ i, i < len → ∃ t : Ex, (W.cell? (a.add (i * 4)) = some (.int .i64 t.k) ∧ W.cell? (a.add (i * 4 + 1)) = some (.int .i64 t.n) ∧ W.cell? (a.add (i * 4 + 2)) = some (.string t.s) ∧ ∃ c cap, W.cell? (a.add (i * 4 + 3)) = some (.slice c t.l.length cap) ∧ RdX W 0 t c) ∧ Fit t := fun i hi => by
          have h4 := hx i hi
          rw [List.getElem?_eq_getElem (by omega), Option.bind_eq_some_iff] at h4
          obtain ⟨cs', p1, p2⟩ := h4
          rw [hc] at p1
          obtain ⟨_, hlen', hcell⟩ := World.cells?_some p1
          obtain ⟨t, c, cap', hcs', hrd, hft⟩ := ih q (by omega) cs' _ p2
          refine ⟨t, ⟨?_, ?_, ?_, c, cap', ?_, hrd⟩, hft⟩
          · have e := hcell 0 (by omega); rw [_root_.Go.Deep.add_add, hcs'] at e; simpa using e
          · have e := hcell 1 (by omega); rw [_root_.Go.Deep.add_add, hcs'] at e; simpa using e
          · have e := hcell 2 (by omega); rw [_root_.Go.Deep.add_add, hcs'] at e; simpa using e
          · have e := hcell 3 (by omega); rw [_root_.Go.Deep.add_add, hcs'] at e; simpa using e
        obtain ⟨T, hT⟩ := @_root_.Go.Deep.choose_lt Ex ⟨X0⟩ _ _ each
        have hL : ((List.range len).map T).length = len := by simp
        have hat : ∀ i, i < len → xAt ((List.range len).map T) i = T i := fun i hi => by
          unfold xAt
          rw [List.getD_eq_getElem?_getD, List.getElem?_map, List.getElem?_range hi]
          rfl
        refine ⟨⟨m, r, s, (List.range len).map T⟩, some a, cap, by simp [hL], (RdX_eq _ _ _ _).2 ?_, (Fit_eq _).2 ⟨hs9, ?_, fun i hi => ?_⟩⟩
        · by_cases h0 : len = 0
          · subst h0; exact .inl rfl
          · right
            obtain ⟨b, off, spot⟩ := a
            have h00 := (hT 0 (by omega)).1.1
            have hspot : spot = none := by simpa [Addr.add] using World.cell?_spot h00
            subst hspot
            have hadd : ∀ j, (⟨b, off, none⟩ : Addr).add j = ⟨b, off + j, none⟩ := fun j => by
              unfold Addr.add
              by_cases hj : j = 0
              · subst hj; simp
              · simp [hj]
            refine ⟨b, off, rfl, Nat.zero_le _, World.block_lt_of_cell? W _ h00, fun i hi => ?_⟩
            have hi : i < len := by simpa using hi
            show OneX W 0 b (off + i * 4) (xAt ((List.range len).map T) i)
            rw [hat i hi]
            have h3 := (hT i hi).1
            rw [hadd, hadd, hadd, hadd] at h3
            exact h3
        · show ((List.range len).map T).length ≤ _
          rw [hL]; unfold maxLen at hm; omega
        · have hi : i < len := by simpa using hi
          show Fit (xAt ((List.range len).map T) i)
          rw [hat i hi]
          exact (hT i hi).2
theorem open_ex {r : Reach} {v : Value} {d : DataW H} {p : List MemPlace} (hv : Value.okWide Tryd.prog W r b0 44 v) (h : DataW.Trod enc Tryd.prog W base spare held 44 v d p) : ∃ (e : Ex) (b : Option Addr) (cap : Nat), v = .agg (e.cs b cap) ∧ RdX W 0 e b ∧ Fit e := by
  obtain ⟨cs, rfl, hsz⟩ := okWide_struct Tryd.underlying44 hv
  obtain ⟨fuel, hf⟩ := h
  obtain ⟨e, b, cap, hcs, h1, h2⟩ := trod_ex _ _ _ hf
  refine ⟨e, b, cap, ?_, h1, h2⟩
  have : cs.toList = [.int .i64 e.k, .int .i64 e.n, .string e.s, .slice b e.l.length cap] := by simpa [Value.cells] using hcs
  unfold Ex.cs
  rw [← Array.toArray_toList (xs := cs), this]
end
end Go.Proofs.YtkolflcjkofleaaDoor

namespace Go.Proofs.YtkolflcjkofleaaDoor
open Go.ChangeShapes Go.WideShapes Go.ChangeAt Go.RowKit
set_option linter.unusedVariables false
set_option maxRecDepth 8000

theorem info3 : (Tryd.prog.info? 3).map (fun i => (i.zero, i.size, i.bytes)) = some (some (.int .i64 0), 1, 8) := by kernel_rfl





def nAt (ns : List Int) (i : Nat) : Int := ns.getD i 0
theorem take_nAt (ns : List Int) (k : Nat) (h : k < ns.length) : ns.take (k + 1) = ns.take k ++ [nAt ns k] := by
  rw [List.take_succ_eq_append_getElem h]; simp [nAt, List.getElem?_eq_getElem h]

/-- A slice of ints with address a reads as ns. -/
def RdN (w : World) (a : Option Addr) (ns : List Int) : Prop :=
  ns = [] ∨ ∃ b off, a = some ⟨b, off, none⟩ ∧ b < w.heap.size ∧ ∀ i, i < ns.length → w.cell? ⟨b, off + i, none⟩ = some (.int .i64 (nAt ns i))
theorem RdN.later {w w' : World} {a : Option Addr} {xs : List Int} (h : RdN w a xs) (hb : Below w.heap.size w w') : RdN w' a xs := by
  rcases h with h | ⟨b, off, ha, hlt, hc⟩
  · exact .inl h
  · exact .inr ⟨b, off, ha, Nat.lt_of_lt_of_le hlt hb.size, fun i hi => (hb.cell (p := ⟨b, off + i, none⟩) hlt).trans (hc i hi)⟩

def cellsN (ns : List Int) : List Value := ns.map fun n => .int .i64 n
theorem cellsN_length (ys : List Int) : (cellsN ys).length = ys.length := by simp [cellsN]
theorem cellsN_append (a b : List Int) : cellsN (a ++ b) = cellsN a ++ cellsN b := by simp [cellsN]
theorem cellsN_one (ys : List Int) : ∀ u ∈ cellsN ys, u.oneCell' = true := by
  intro u hu
  simp only [cellsN, List.mem_map] at hu
  obtain ⟨y, _, rfl⟩ := hu
  rfl
/-- v is a slice of the call's own (blocks from B on) that holds the ints ns. -/
def OwnN (w : World) (B : Nat) (v : Value) (ns : List Int) : Prop := w.ownsRow B 3 1 v ns.length (cellsN ns)

theorem ownN_none (w : World) (B : Nat) : OwnN w B (.slice none 0 0) [] := ⟨rfl, .inl ⟨rfl, rfl⟩⟩
theorem ownN_empty (w : World) : OwnN (w.alloc (Obj.cells #[] 3)) w.heap.size (.slice (some ⟨w.heap.size, 0, none⟩) 0 0) [] :=
  World.ownsRow_lit w #[] 0 (Nat.le_refl _) (by decide) rfl
theorem OwnN.rd {w : World} {B : Nat} {v : Value} {ys : List Int} (h : OwnN w B v ys) : ∃ a cap, v = .slice a ys.length cap ∧ ys.length ≤ cap ∧ cap ≤ maxLen ∧ RdN w a ys ∧ (∀ ad, a = some ad → B ≤ ad.block) ∧ (a = none → cap = 0) := by
  obtain ⟨_, ⟨rfl, h0⟩ | ⟨g, cap, cur, rfl, hg, hh, hn, hm, hs, ht⟩⟩ := id h
  · obtain rfl : ys = [] := List.eq_nil_of_length_eq_zero h0
    exact ⟨none, 0, rfl, Nat.le_refl _, Nat.zero_le _, .inl rfl, (fun _ h => by cases h), fun _ => rfl⟩
  · refine ⟨_, cap, rfl, hn, hm, .inr ⟨g, 0, rfl, (Array.getElem?_eq_some_iff.1 hh).1, fun i hi => ?_⟩, (fun ad h => by cases h; exact hg), fun h => by cases h⟩
    have h2 := World.ownsRow.cellAt h i (by omega)
    rw [Nat.zero_add, h2]
    simp only [cellsN, List.getElem?_map, List.getElem?_eq_getElem hi, Option.map_some]
    unfold nAt
    rw [List.getD_eq_getElem?_getD, List.getElem?_eq_getElem hi]
    rfl
theorem OwnN.rd1 {w : World} {B : Nat} {a : Option Addr} {n cap : Nat} {ys : List Int} (h : OwnN w B (.slice a n cap) ys) : RdN w a ys := by
  obtain ⟨a', cap', e, _, _, hr, _⟩ := h.rd
  cases e
  exact hr
theorem OwnN.keep {w w' : World} {B : Nat} {v : Value} {ys : List Int} (h : OwnN w B v ys) (hs : ∀ g, v.ownBlock = some g → g < w.heap.size → w'.heap[g]? = w.heap[g]?) : OwnN w' B v ys := by
  obtain ⟨h1, h2 | ⟨g, cap, cur, rfl, hg, hh, r⟩⟩ := h
  · exact ⟨h1, .inl h2⟩
  · exact ⟨h1, .inr ⟨g, cap, cur, rfl, hg, (hs g rfl (Array.getElem?_eq_some_iff.1 hh).1).trans hh, r⟩⟩
theorem OwnN.later {w w' : World} {B : Nat} {v : Value} {ys : List Int} (h : OwnN w B v ys) (hb : Below w.heap.size w w') : OwnN w' B v ys := h.keep fun g _ hg => hb.block g hg
theorem OwnN.past {w w' : World} {B : Nat} {v : Value} {ys : List Int} {b : Nat} (h : OwnN w B v ys) (hb : w.grownBy w' (some b)) (hne : v.ownBlock ≠ some b) : OwnN w' B v ys :=
  h.keep fun g hv hg => hb.block g hg (by rw [← hv]; exact hne)
theorem OwnN.lt {w : World} {B : Nat} {v : Value} {ys : List Int} (h : OwnN w B v ys) {g : Nat} (hg : v.ownBlock = some g) : B ≤ g ∧ g < w.heap.size := World.ownsRow.lt h g hg
theorem OwnN.base {w : World} {B B' : Nat} {v : Value} {ys : List Int} (h : OwnN w B v ys) (hB : B' ≤ B) : OwnN w B' v ys := by
  obtain ⟨h1, h2 | ⟨g, cap, cur, e, hg, r⟩⟩ := h
  · exact ⟨h1, .inl h2⟩
  · exact ⟨h1, .inr ⟨g, cap, cur, e, Nat.le_trans hB hg, r⟩⟩
/-- An owned slice, written out: none, or in a block of its own. -/
theorem OwnN.form {w : World} {B : Nat} {v : Value} {ys : List Int} (h : OwnN w B v ys) : (v = .slice none 0 0 ∧ ys = []) ∨ ∃ g cap, v = .slice (some ⟨g, 0, none⟩) ys.length cap ∧ B ≤ g ∧ g < w.heap.size ∧ ys.length ≤ cap ∧ cap ≤ maxLen := by
  obtain ⟨_, ⟨h1, h2⟩ | ⟨g, cap, cur, rfl, hg, hh, hn, hm, r⟩⟩ := h
  · exact .inl ⟨h1, List.eq_nil_of_length_eq_zero h2⟩
  · exact .inr ⟨g, cap, rfl, hg, (Array.getElem?_eq_some_iff.1 hh).1, hn, hm⟩
theorem grownBy_trans {a b c : World} {r : Option Nat} (h : a.grownBy b r) (k : b.grownBy c r) : a.grownBy c r :=
  ⟨k.os.trans h.os, k.tape.trans h.tape, k.output.trans h.output, Nat.le_trans h.size k.size, fun j hj hn => (k.block j (Nat.lt_of_lt_of_le hj h.size) hn).trans (h.block j hj hn)⟩

theorem below_drewN {B : Nat} {a w : World} (h : Below B a w) (n : Nat) : Below B a (w.drewN n) := h.trans ⟨rfl, rfl, rfl, Nat.le_refl _, fun _ _ => rfl⟩

set_option maxHeartbeats 400000 in
theorem eqIntS_same (a b : Option Addr) (len c1 c2 : Nat) (xs : List Int) (w : World) (hl : xs.length = len) (hm : len ≤ 1099511627776) (h1 : RdN w a xs) (h2 : RdN w b xs) :
    Calls Tryd.prog 40 #[.slice a len c1, .slice b len c2] w fun e w' => e = .returned (.bool true) ∧ Below w.heap.size w w' := by
  go_enter Tryd.func40, Tryd.ntmps40
  go_wp2
  go_loopw [5] (fun i wr => ∃ k : Nat, k ≤ len ∧ i = .int .i64 k ∧ Below w.heap.size w wr) (fun i _ => len - (intOf i).toNat)
  case atStart => exact ⟨0, Nat.zero_le _, rfl, Below.refl _ _⟩
  case round =>
    obtain ⟨k, hk, rfl, hbel⟩ := hrel
    by_cases hlt : k < len
    · rcases h1 with rfl | ⟨p, po, rfl, hp, hpc⟩
      · simp at hl; omega
      rcases h2 with h0 | ⟨q, qo, rfl, hq, hqc⟩
      · rw [h0] at hl; simp at hl; omega
      have e1 : wr.cell? ⟨p, po + k, none⟩ = some (.int .i64 (nAt xs k)) := (hbel.cell (p := ⟨p, po + k, none⟩) hp).trans (hpc k (by omega))
      have e2 : wr.cell? ⟨q, qo + k, none⟩ = some (.int .i64 (nAt xs k)) := (hbel.cell (p := ⟨q, qo + k, none⟩) hq).trans (hqc k (by omega))
      clear hpc hqc
      go_wp2_with fail
      go_quiet (fail)
      go_wp2
      go_roundw
      case rel => exact ⟨k + 1, by omega, by go_num, below_drewN hbel _⟩
      case measure => simp [intOf]; omega
    · go_wp2
      go_ret
      exact ⟨rfl, hbel⟩

/-- What the marks leave: numbers from k on. -/
def markN (k n : Nat) : List Int := (List.range n).map fun (i : Nat) => (k : Int) + (i : Int)
theorem markN_length (k n : Nat) : (markN k n).length = n := by simp [markN]
theorem markN_at (k n i : Nat) (h : i < n) : nAt (markN k n) i = (k : Int) + i := by
  unfold nAt markN
  rw [List.getD_eq_getElem?_getD, List.getElem?_map, List.getElem?_range h]
  simp
theorem mark_step (k0 k : Nat) (xs : List Int) (h : k < xs.length) : (cellsN (markN k0 k ++ xs.drop k)).set k (.int .i64 ((k0 : Int) + k)) = cellsN (markN k0 (k + 1) ++ xs.drop (k + 1)) := by
  have e1 : markN k0 (k + 1) = markN k0 k ++ [(k0 : Int) + (k : Int)] := by simp [markN, List.range_succ]
  have e2 : xs.drop k = xs[k] :: xs.drop (k + 1) := List.drop_eq_getElem_cons h
  have e4 : (cellsN (markN k0 k)).length = k := by rw [cellsN_length, markN_length]
  have e6 : cellsN (xs.drop k) = cellsN [xs[k]] ++ cellsN (xs.drop (k + 1)) := by rw [e2, ← cellsN_append]; rfl
  rw [e1, cellsN_append, cellsN_append, cellsN_append, e6, List.set_append_right _ _ (by omega), e4, Nat.sub_self]
  simp [cellsN]

end Go.Proofs.YtkolflcjkofleaaDoor

namespace Go.Proofs.YtkolflcjkofleaaDoor
open Go.ChangeShapes Go.WideShapes Go.ChangeAt Go.RowKit
set_option linter.unusedVariables false
set_option maxRecDepth 8000
set_option linter.unusedSimpArgs false

def tAtS (L : List ByteArray) (i : Nat) : ByteArray := L.getD i E0
/-- A slice of texts with address a reads as L. -/
def RdU (w : World) (a : Option Addr) (L : List ByteArray) : Prop := L = [] ∨ ∃ b off, a = some ⟨b, off, none⟩ ∧ b < w.heap.size ∧ ∀ i, i < L.length → w.cell? ⟨b, off + i, none⟩ = some (.string (tAtS L i))
theorem RdU.later {w w' : World} {a : Option Addr} {L : List ByteArray} (h : RdU w a L) (hb : Below w.heap.size w w') : RdU w' a L := by
  rcases h with h | ⟨b, off, ha, hlt, hc⟩
  · exact .inl h
  · exact .inr ⟨b, off, ha, Nat.lt_of_lt_of_le hlt hb.size, fun i hi => (hb.cell (p := ⟨b, off + i, none⟩) hlt).trans (hc i hi)⟩
def cellsS (L : List ByteArray) : List Value := L.map .string
theorem cellsS_length (L : List ByteArray) : (cellsS L).length = L.length := by simp [cellsS]
/-- A row of texts of one's own. -/
def OwnS (w : World) (B : Nat) (v : Value) (L : List ByteArray) : Prop := w.ownsRow B 9 1 v L.length (cellsS L)
theorem infoStr : (Tryd.prog.info? 9).map (fun i => (i.zero, i.size, i.bytes)) = some (some (.string ⟨#[]⟩), 1, 16) := by kernel_rfl
theorem OwnS.cells {w : World} {B g cap : Nat} {L : List ByteArray} (h : OwnS w B (.slice (some ⟨g, 0, none⟩) L.length cap) L) : RdS w g L := by
  intro j hj
  have hc := World.ownsRow.cellAt h j (by omega)
  rw [hc]
  unfold cellsS
  rw [List.getElem?_map, List.getElem?_eq_getElem hj, List.getD_eq_getElem?_getD, List.getElem?_eq_getElem hj]
  rfl
set_option maxHeartbeats 1000000 in
theorem toIntS_any (a : Option Addr) (len cap : Nat) (xs : List Int) (w : World) (hl : xs.length = len) (hm : len ≤ 1048576) (hr : RdN w a xs) :
    Calls Tryd.prog 39 #[.slice a len cap] w fun e w' => e = .returned (.slice (some ⟨w.heap.size, 0, none⟩) len len) ∧ OwnN w' w.heap.size (.slice (some ⟨w.heap.size, 0, none⟩) len len) xs ∧ Below w.heap.size w w' := by
  have hmk := run_make_row' (P := Tryd.prog) 30 3 (.int .i64 0) 8 Tryd.underlying30 info3 rfl .i64 .i64 len (by omega) (by omega)
  go_enter Tryd.func39, Tryd.ntmps39
  go_wp2
  go_loopw [4] (fun i wr => ∃ k : Nat, k ≤ len ∧ i = .int .i64 k ∧ wr.rowIs w.heap.size 3 len (fun j => if j < k then .int .i64 (nAt xs j) else .int .i64 0) ∧ Below w.heap.size w wr) (fun i _ => len - (intOf i).toNat)
  case atStart => exact ⟨0, Nat.zero_le _, rfl, (World.rowIs_made w (.int .i64 0) len 3).congr (fun i hi => by simp), (Below.refl _ _).alloc (Nat.le_refl _) _⟩
  case round =>
    obtain ⟨k, hk, rfl, hrow, hbel⟩ := hrel
    by_cases hlt : k < len
    · rcases hr with rfl | ⟨b, off, rfl, hb, hc⟩
      · simp at hl; omega
      have hcx : wr.cell? ⟨b, off + k, none⟩ = some (.int .i64 (nAt xs k)) := (hbel.cell (p := ⟨b, off + k, none⟩) hb).trans (hc k (by omega))
      have hfz := hrow.frozen k
      have hco := hrow.cell hlt
      have hR := (hrow.set k (.int .i64 (nAt xs k))).congr (g := fun j => if j < k + 1 then .int .i64 (nAt xs j) else .int .i64 0) (fun j hj => by
        by_cases e : j = k
        · simp [e]
        · by_cases e2 : j < k
          · simp [e, e2, show j < k + 1 by omega]
          · simp [e, e2, show ¬ j < k + 1 by omega])
      have hB := hbel.setCell (p := ⟨w.heap.size, k, none⟩) (Nat.le_refl _) (.int .i64 (nAt xs k))
      clear hrow hbel
      go_wp2
      go_roundw
      case rel => exact ⟨k + 1, by omega, by go_num, hR, hB⟩
      case measure => simp [intOf]; omega
    · have hR := hrow.congr (g := fun j => .int .i64 (nAt xs j)) (fun j hj => by simp [show j < k by omega])
      clear hrow
      go_wp2
      go_ret
      refine ⟨rfl, ?_, hbel⟩
      obtain ⟨c, hc, hs, hv⟩ := hR
      refine ⟨by rw [cellsN_length]; omega, .inr ⟨w.heap.size, len, c, by rw [hl], Nat.le_refl _, hc, by omega, by unfold maxLen; omega, by omega, ?_⟩⟩
      rw [hl, Nat.mul_one, List.take_of_length_le (by simp; omega)]
      apply List.ext_getElem?
      intro i
      by_cases hi : i < len
      · rw [Array.getElem?_toList, hv i hi]
        simp only [cellsN, List.getElem?_map, List.getElem?_eq_getElem (show i < xs.length by omega), Option.map_some, nAt, List.getD_eq_getElem?_getD, Option.getD_some]
      · rw [List.getElem?_eq_none (by simp; omega), List.getElem?_eq_none (by rw [cellsN_length]; omega)]
set_option maxHeartbeats 1000000 in
theorem toStrS_any (a : Option Addr) (len cap : Nat) (L : List ByteArray) (w : World) (hl : L.length = len) (hm : len ≤ 1048576) (hr : RdU w a L) :
    Calls Tryd.prog 33 #[.slice a len cap] w fun e w' => e = .returned (.slice (some ⟨w.heap.size, 0, none⟩) len len) ∧ OwnS w' w.heap.size (.slice (some ⟨w.heap.size, 0, none⟩) len len) L ∧ Below w.heap.size w w' := by
  have hmk := run_make_row' (P := Tryd.prog) 31 9 (.string ⟨#[]⟩) 16 Tryd.underlying31 infoStr rfl .i64 .i64 len (by omega) (by omega)
  go_enter Tryd.func33, Tryd.ntmps33
  go_wp2
  go_loopw [4] (fun i wr => ∃ k : Nat, k ≤ len ∧ i = .int .i64 k ∧ wr.rowIs w.heap.size 9 len (fun j => if j < k then .string (tAtS L j) else .string ⟨#[]⟩) ∧ Below w.heap.size w wr) (fun i _ => len - (intOf i).toNat)
  case atStart => exact ⟨0, Nat.zero_le _, rfl, (World.rowIs_made w (.string ⟨#[]⟩) len 9).congr (fun i hi => by simp), (Below.refl _ _).alloc (Nat.le_refl _) _⟩
  case round =>
    obtain ⟨k, hk, rfl, hrow, hbel⟩ := hrel
    by_cases hlt : k < len
    · rcases hr with rfl | ⟨b, off, rfl, hb, hc⟩
      · simp at hl; omega
      have hcx : wr.cell? ⟨b, off + k, none⟩ = some (.string (tAtS L k)) := (hbel.cell (p := ⟨b, off + k, none⟩) hb).trans (hc k (by omega))
      have hfz := hrow.frozen k
      have hco := hrow.cell hlt
      have hR := (hrow.set k (.string (tAtS L k))).congr (g := fun j => if j < k + 1 then .string (tAtS L j) else .string ⟨#[]⟩) (fun j hj => by
        by_cases e : j = k
        · simp [e]
        · by_cases e2 : j < k
          · simp [e, e2, show j < k + 1 by omega]
          · simp [e, e2, show ¬ j < k + 1 by omega])
      have hB := hbel.setCell (p := ⟨w.heap.size, k, none⟩) (Nat.le_refl _) (.string (tAtS L k))
      clear hrow hbel
      go_wp2
      go_roundw
      case rel => exact ⟨k + 1, by omega, by go_num, hR, hB⟩
      case measure => simp [intOf]; omega
    · have hR := hrow.congr (g := fun j => .string (tAtS L j)) (fun j hj => by simp [show j < k by omega])
      clear hrow
      go_wp2
      go_ret
      refine ⟨rfl, ?_, hbel⟩
      obtain ⟨c, hc, hs, hv⟩ := hR
      refine ⟨by rw [cellsS_length]; omega, .inr ⟨w.heap.size, len, c, by rw [hl], Nat.le_refl _, hc, by omega, by unfold maxLen; omega, by omega, ?_⟩⟩
      rw [hl, Nat.mul_one, List.take_of_length_le (by simp; omega)]
      apply List.ext_getElem?
      intro i
      by_cases hi : i < len
      · rw [Array.getElem?_toList, hv i hi]
        simp only [cellsS, List.getElem?_map, List.getElem?_eq_getElem (show i < L.length by omega), Option.map_some, tAtS, List.getD_eq_getElem?_getD, Option.getD_some]
      · rw [List.getElem?_eq_none (by simp; omega), List.getElem?_eq_none (by rw [cellsS_length]; omega)]
set_option maxHeartbeats 1000000 in
theorem eqStrS_same (a b : Option Addr) (len c1 c2 : Nat) (L : List ByteArray) (w : World) (hl : L.length = len) (hm : len ≤ 1099511627776) (h1 : RdU w a L) (h2 : RdU w b L) :
    Calls Tryd.prog 35 #[.slice a len c1, .slice b len c2] w fun e w' => e = .returned (.bool true) ∧ Below w.heap.size w w' := by
  go_enter Tryd.func35, Tryd.ntmps35
  go_wp2
  go_loopw [5] (fun i wr => ∃ k : Nat, k ≤ len ∧ i = .int .i64 k ∧ Below w.heap.size w wr) (fun i _ => len - (intOf i).toNat)
  case atStart => exact ⟨0, Nat.zero_le _, rfl, Below.refl _ _⟩
  case round =>
    obtain ⟨k, hk, rfl, hbel⟩ := hrel
    by_cases hlt : k < len
    · rcases h1 with rfl | ⟨p, po, rfl, hp, hpc⟩
      · simp at hl; omega
      rcases h2 with h0 | ⟨q, qo, rfl, hq, hqc⟩
      · rw [h0] at hl; simp at hl; omega
      have e1 : wr.cell? ⟨p, po + k, none⟩ = some (.string (tAtS L k)) := (hbel.cell (p := ⟨p, po + k, none⟩) hp).trans (hpc k (by omega))
      have e2 : wr.cell? ⟨q, qo + k, none⟩ = some (.string (tAtS L k)) := (hbel.cell (p := ⟨q, qo + k, none⟩) hq).trans (hqc k (by omega))
      clear hpc hqc
      go_wp2_with fail
      go_quiet (fail)
      go_wp2
      go_roundw
      case rel => exact ⟨k + 1, by omega, by go_num, below_drewN hbel _⟩
      case measure => simp [intOf]; omega
    · go_wp2
      go_ret
      exact ⟨rfl, hbel⟩
def szU : List ByteArray → Nat
  | [] => 0
  | t :: r => t.size + szU r
theorem szU_take (L : List ByteArray) (k : Nat) (h : k < L.length) : szU (L.take (k + 1)) = szU (L.take k) + (tAtS L k).size := by
  induction L generalizing k with
  | nil => simp at h
  | cons t r ih =>
    cases k with
    | zero => simp [szU, tAtS]
    | succ k =>
      have := ih k (by simpa using h)
      simp only [List.take_succ_cons, szU, this]
      show _ = t.size + _ + (tAtS r k).size
      omega
set_option maxHeartbeats 1000000 in
theorem szStrS_any (a : Option Addr) (len cap left : Nat) (L : List ByteArray) (w : World) (hl : L.length = len) (hm : len ≤ 9223372036854775807) (h1 : left ≤ 1048576) (hz : ∀ i, i < len → (tAtS L i).size ≤ 9223372036854775807) (hr : RdU w a L) : Calls Tryd.prog 31 #[.slice a len cap, .int .i64 left] w fun e w' => ((e = .returned (.int .i64 (-1))) ∨ (len + szU L ≤ left ∧ e = .returned (.int .i64 ((left - (len + szU L) : Nat) : Int)))) ∧ Below w.heap.size w w' := by
  by_cases hbig : (left : Int) - (len : Int) < 0
  · go_enter Tryd.func31, Tryd.ntmps31
    go_wp2
    go_ret
    exact ⟨.inl rfl, Below.refl _ _⟩
  · go_enter Tryd.func31, Tryd.ntmps31
    go_wp2
    go_loopw [1, 5] (fun lv i wr => ∃ k : Nat, k ≤ len ∧ i = .int .i64 k ∧ len + szU (L.take k) ≤ left ∧ lv = .int .i64 ((left : Int) - len - szU (L.take k)) ∧ Below w.heap.size w wr) (fun _ i _ => len - (intOf i).toNat)
    case atStart => exact ⟨0, Nat.zero_le _, rfl, by simp [szU]; omega, by simp [szU], Below.refl _ _⟩
    case round =>
      obtain ⟨k, hk, rfl, hs, rfl, hb⟩ := hrel
      by_cases hlt : k < len
      · rcases hr with h0 | ⟨b, off, rfl, hbl, hc⟩
        · rw [h0] at hl; simp at hl; omega
        have d0 : wr.cell? ⟨b, off + k, none⟩ = _ := (hb.cell (p := ⟨b, _, none⟩) hbl).trans (hc k (by omega))
        have ST := hide (szU_take L k (by omega))
        have hzk := hz k hlt
        clear hc
        generalize hzs : (tAtS L k).size = z at ST hzk
        generalize tAtS L k = ss at d0 hzs
        subst hzs
        by_cases hneg : (left : Int) - (len : Int) - (szU (L.take k) : Int) - (ss.size : Int) < 0
        · go_wp2
          go_ret
          exact ⟨.inl rfl, hb⟩
        · go_wp2
          go_roundw
          case rel =>
            refine ⟨k + 1, by omega, by go_num, ?_, ?_, hb⟩
            · rw [unhide ST]; omega
            · rw [unhide ST]; congr 1; omega
          case measure => simp [intOf]; omega
      · obtain rfl : k = len := by omega
        have E := hide (show L.take k = L by rw [← hl, List.take_length])
        rw [unhide E] at hs
        have E2 := hide (show szU (L.take k) = szU L by rw [unhide E])
        have E3 := hide (show ((left : Int) - (k : Int) - (szU (L.take k) : Int)) = ((left - (k + szU L) : Nat) : Int) by have := unhide E2; omega)
        go_wp2
        go_ret
        exact ⟨.inr ⟨hs, congrArg (fun z => Ending.returned (.int .i64 z)) (unhide E3)⟩, hb⟩
end Go.Proofs.YtkolflcjkofleaaDoor

namespace Go.Proofs.YtkolflcjkofleaaDoor
open Go.ChangeShapes Go.WideShapes Go.ChangeAt Go.RowKit
set_option linter.unusedVariables false
set_option maxRecDepth 8000

/-- What is known of a list of texts that came in. -/
structure IsU (W : World) (a : Option Addr) (len : Nat) (L : List ByteArray) : Prop where
  hlen : L.length = len
  max : len ≤ 9223372036854775807
  each : ∀ i, i < len → (tAtS L i).size ≤ 9223372036854775807
  rd : RdU W a L
section
variable {H : Type} {enc : TypeId × Value → H} {W : World} {b0 base : Nat} {spare : TypeId → Bool} {held : Bool}
theorem open_strs {r : Reach} {v : Value} {d : DataW H} {p : List MemPlace} (hv : Value.okWide Tryd.prog W r b0 31 v) (h : DataW.Trod enc Tryd.prog W base spare held 31 v d p) : ∃ a len cap L, v = .slice a len cap ∧ IsU W a len L := by
  obtain ⟨a, len, cap, rfl⟩ := okWide_slice Tryd.underlying31 hv
  obtain ⟨fuel, hf⟩ := h
  rcases open_strings Tryd.underlying31 Tryd.underlying9 (by kernel_rfl) hf with ⟨hcs, _⟩ | ⟨x, l, c, ss, hcs, _, hl, hm, hz, _, hcell, hsz⟩
  · simp [Value.cells] at hcs
    obtain ⟨rfl, rfl, rfl⟩ := hcs
    exact ⟨none, 0, 0, [], rfl, rfl, by omega, fun i hi => by omega, .inl rfl⟩
  · simp [Value.cells] at hcs
    obtain ⟨rfl, rfl, rfl⟩ := hcs
    have hlz : len ≤ ss.length := by rw [hz]; split <;> omega
    have hL : (ss.take len).length = len := by simp; omega
    have hat : ∀ i, i < len → tAtS (ss.take len) i = ss.getD i ByteArray.empty := fun i hi => by
      unfold tAtS
      rw [List.getD_eq_getElem?_getD, List.getElem?_take_of_lt hi, List.getElem?_eq_getElem (by omega), List.getD_eq_getElem?_getD, List.getElem?_eq_getElem (by omega)]
      rfl
    have hmem : ∀ i, i < len → (ss.getD i ByteArray.empty).size ≤ maxLen := fun i hi => by
      rw [List.getD_eq_getElem?_getD, List.getElem?_eq_getElem (by omega)]
      exact hsz _ (List.getElem_mem _)
    refine ⟨some x, len, cap, ss.take len, rfl, hL, by unfold maxLen at hm; omega, fun i hi => by rw [hat i hi]; have := hmem i hi; unfold maxLen at this; omega, ?_⟩
    by_cases h0 : len = 0
    · subst h0; exact .inl (by simp)
    · right
      obtain ⟨b, off, spot⟩ := x
      have h00 := hcell 0 (by omega)
      have hspot : spot = none := by simpa [Addr.add] using World.cell?_spot h00
      subst hspot
      have hadd : ∀ j, (⟨b, off, none⟩ : Addr).add j = ⟨b, off + j, none⟩ := fun j => by
        unfold Addr.add
        by_cases hj : j = 0
        · subst hj; simp
        · simp [hj]
      refine ⟨b, off, rfl, World.block_lt_of_cell? W _ h00, fun i hi => ?_⟩
      rw [hL] at hi
      rw [hat i hi]
      have h3 := hcell i (by omega)
      rw [hadd] at h3
      exact h3
theorem open_exs {r : Reach} {v : Value} {d : DataW H} {p : List MemPlace} (hv : Value.okWide Tryd.prog W r b0 42 v) (h : DataW.Trod enc Tryd.prog W base spare held 42 v d p) : ∃ (e : Ex) (b : Option Addr) (cap : Nat), v = .slice b e.l.length cap ∧ RdX W 0 e b ∧ Fit e := by
  obtain ⟨a0, len, cap, rfl⟩ := okWide_slice Tryd.underlying42 hv
  obtain ⟨fuel, hf⟩ := h
  have hc : Tryd.prog.cellsOf 44 = 4 := by kernel_rfl
  rcases DataW.trod_slice Tryd.underlying42 hf with ⟨hcs, _⟩ | ⟨a, l0, c0, elems, rest, q, hq, hcs, _, hb, hl, hm, hel, hx, _, _⟩
  · simp [Value.cells] at hcs
    obtain ⟨rfl, rfl, rfl⟩ := hcs
    exact ⟨⟨0, 0, E0, []⟩, none, 0, rfl, (RdX_eq _ _ _ _).2 (.inl rfl), (Fit_eq _).2 ⟨by decide, by simp, fun i hi => by simp at hi⟩⟩
  · simp [Value.cells] at hcs
    obtain ⟨rfl, rfl, rfl⟩ := hcs
    have each : ∀ i, i < len → ∃ t : Ex, (W.cell? (a.add (i * 4)) = some (.int .i64 t.k) ∧ W.cell? (a.add (i * 4 + 1)) = some (.int .i64 t.n) ∧ W.cell? (a.add (i * 4 + 2)) = some (.string t.s) ∧ ∃ c cap, W.cell? (a.add (i * 4 + 3)) = some (.slice c t.l.length cap) ∧ RdX W 0 t c) ∧ Fit t := fun i hi => by
      have h4 := hx i hi
      rw [List.getElem?_eq_getElem (by omega), Option.bind_eq_some_iff] at h4
      obtain ⟨cs', p1, p2⟩ := h4
      rw [hc] at p1
      obtain ⟨_, hlen', hcell⟩ := World.cells?_some p1
      obtain ⟨t, c, cap', hcs', hrd, hft⟩ := trod_ex _ cs' _ p2
      refine ⟨t, ⟨?_, ?_, ?_, c, cap', ?_, hrd⟩, hft⟩
      · have e := hcell 0 (by omega); rw [_root_.Go.Deep.add_add, hcs'] at e; simpa using e
      · have e := hcell 1 (by omega); rw [_root_.Go.Deep.add_add, hcs'] at e; simpa using e
      · have e := hcell 2 (by omega); rw [_root_.Go.Deep.add_add, hcs'] at e; simpa using e
      · have e := hcell 3 (by omega); rw [_root_.Go.Deep.add_add, hcs'] at e; simpa using e
    obtain ⟨T, hT⟩ := @_root_.Go.Deep.choose_lt Ex ⟨X0⟩ _ _ each
    have hL : ((List.range len).map T).length = len := by simp
    have hat : ∀ i, i < len → xAt ((List.range len).map T) i = T i := fun i hi => by
      unfold xAt
      rw [List.getD_eq_getElem?_getD, List.getElem?_map, List.getElem?_range hi]
      rfl
    refine ⟨⟨0, 0, E0, (List.range len).map T⟩, some a, cap, by simp [hL], (RdX_eq _ _ _ _).2 ?_, (Fit_eq _).2 ⟨show E0.size ≤ 9223372036854775807 by decide, ?_, fun i hi => ?_⟩⟩
    · by_cases h0 : len = 0
      · subst h0; exact .inl rfl
      · right
        obtain ⟨b, off, spot⟩ := a
        have h00 := (hT 0 (by omega)).1.1
        have hspot : spot = none := by simpa [Addr.add] using World.cell?_spot h00
        subst hspot
        have hadd : ∀ j, (⟨b, off, none⟩ : Addr).add j = ⟨b, off + j, none⟩ := fun j => by
          unfold Addr.add
          by_cases hj : j = 0
          · subst hj; simp
          · simp [hj]
        refine ⟨b, off, rfl, Nat.zero_le _, World.block_lt_of_cell? W _ h00, fun i hi => ?_⟩
        have hi : i < len := by simpa using hi
        show OneX W 0 b (off + i * 4) (xAt ((List.range len).map T) i)
        rw [hat i hi]
        have h3 := (hT i hi).1
        rw [hadd, hadd, hadd, hadd] at h3
        exact h3
    · show ((List.range len).map T).length ≤ _
      rw [hL]; unfold maxLen at hm; omega
    · have hi : i < len := by simpa using hi
      show Fit (xAt ((List.range len).map T) i)
      rw [hat i hi]
      exact (hT i hi).2
end
end Go.Proofs.YtkolflcjkofleaaDoor

namespace Go.Proofs.YtkolflcjkofleaaDoor
open Go.ChangeShapes Go.WideShapes Go.ChangeAt Go.RowKit
set_option linter.unusedVariables false
set_option maxRecDepth 8000

end Go.Proofs.YtkolflcjkofleaaDoor
