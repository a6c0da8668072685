/- Contracts over this seat's translation, laid together; conditions stand as hypotheses of each. -/
import Derived.LoopN
import Derived.Deep.MidRow
import Derived.Deep.Slices
import Derived.Deep.Upon
import Derived.Deep.RegionHeld
import Derived.Laws.OwnMore
import Derived.Laws.Rows
import Derived.Lib.Builder
import Derived.Test.YtoilipfipmoljaaDoorProg
import Derived.Lib.SmallJoins
import Derived.Laws.Tables
import Derived.Deep.RegionWith
import Derived.Laws.Strings3
import Derived.BigGuard
import Derived.Lib.BufferWrite
import Derived.Lib.UnsafeStr
import Derived.Lib.IfaceEq
import Derived.Lib.AtoiErrMem
import Derived.Lib.Walk
import Derived.Laws.MakeOwn
import Derived.Laws.Closers25b
import Derived.Deep.OwnRows
import Derived.WalkSpells
import Derived.Laws.BitsLemmas
import Derived.Laws.IdiomStrings
import Derived.WalkLawsBesides
import Derived.ShutString
import Derived.OwnWalk
import Derived.Laws.CopyOwn
import Derived.Deep.DeepMust
import Derived.WalkKit
import Derived.ProofKit
import Derived.OpenShut
import Derived.ChangeOld
import Derived.Below
import Derived.Laws.AppendOwnNone
import Derived.BigQuiet
import Derived.Laws.ResultCell
import Derived.Test.YtoilipfipmoljaaDoorRows
import Derived.Lib.LaidTab
import Derived.Stop.LaidErr
import Derived.MakeChecks
import Derived.WalkMore
import Derived.LaidLaws
import Derived.Lib.Bytealg
import GoSem.Claim
import Derived.JoinedTies
import Derived.KernelRfl
namespace Go.Proofs.YtoilipfipmoljaaDoor
open Go.ChangeShapes Go.WideShapes Go.ChangeAt Go.RowKit
set_option maxHeartbeats 16000000
section
variable {P : Program} {ops : Array Oper} {Q : Exit → Act → World → Prop} {md : Region.Mode} {S : World → Prop} {oi : Oper} {fuel : Nat} {listed : Array Bool} {a : Act} {w : World}
theorem tkA (i : Nat) (v : Value) (hi : ops[i]? = some oi) (hy : YieldsIf P ops S oi v a) (hS : S w) (h : wpAnyH P md ops Q S fuel (listed.setIfInBounds i true) (a.put oi.dst v) w) (hs : Region.noSelect ops = true := by kernel_rfl) (hf : Region.free md ops listed i = true := by kernel_rfl) (hr : (Region.ready md ops listed).contains i = true := by kernel_rfl) (hQ : ∀ c a w, Q (.panic c) (a.put oi.dst v) w → Q (.panic c) a w := by exact fun _ _ _ h => h) : wpAnyH P md ops Q S (fuel + 1) listed a w := wpAnyH_take hi hs hf hr hQ hy hS h
theorem tkB (i : Nat) (v : Value) (hi : ops[i]? = some oi) (hS : S w) (h : wpAnyH P md ops Q S fuel (listed.setIfInBounds i true) (a.put oi.dst v) w) (hs : Region.noSelect ops = true := by kernel_rfl) (hf : Region.free md ops listed i = true := by kernel_rfl) (hr : (Region.ready md ops listed).contains i = true := by kernel_rfl) (hQ : ∀ c a w, Q (.panic c) (a.put oi.dst v) w → Q (.panic c) a w := by exact fun _ _ _ h => h) (hy : YieldsIf P ops S oi v a := by exact .inl ⟨by rfl, fun w hc => by clear hc; go_simp⟩) : wpAnyH P md ops Q S (fuel + 1) listed a w := wpAnyH_take hi hs hf hr hQ hy hS h
end
set_option linter.unusedVariables false
set_option maxRecDepth 8000
theorem hide {p : Prop} (h : p) : Hid p := h
theorem uh {p : Prop} (h : Hid p) : p := h
def inB (x a b : Int) : Bool := decide (a ≤ x) && decide (x ≤ b)
theorem inB_t (x a b : Int) (h1 : a ≤ x) (h2 : x ≤ b) : inB x a b = true := by unfold inB; simp [h1, h2]
theorem inB_f (x a b : Int) (h : ¬ (a ≤ x ∧ x ≤ b)) : inB x a b = false := by unfold inB; simp; omega
theorem inB_iff (x a b : Int) : inB x a b = true ↔ a ≤ x ∧ x ≤ b := by unfold inB; simp
theorem in_any (x a b : Int) (w : World) : Calls Tryd.prog 39 #[.int .i64 x, .int .i64 a, .int .i64 b] w fun e w' => e = .returned (.bool (inB x a b)) ∧ w' = w := by
 unfold inB
 by_cases h1 : a ≤ x
 ·
  rw [decide_eq_true h1, Bool.true_and]
  go_enter Tryd.func39, Tryd.ntmps39
  go_wp2
  go_ret
  exact ⟨rfl, rfl⟩
 ·
  rw [decide_eq_false h1, Bool.false_and]
  have h3 : decide (a ≤ x) = false := decide_eq_false h1
  go_enter Tryd.func39, Tryd.ntmps39
  go_wp2
  go_ret
  exact ⟨rfl, rfl⟩
theorem i64_and65535 (n : Int) : bits .and .i64 n 65535 = n % 65536 := by
 have h127 : (BitVec.ofInt 64 65535).toNat = 2 ^ 16 - 1 := by decide
 have key : (BitVec.ofInt 64 n &&& BitVec.ofInt 64 65535).toNat = (n % ((2 ^ 64 : Nat) : Int)).toNat % 2 ^ 16 := by
  rw [BitVec.toNat_and, BitVec.toNat_ofInt, h127, Nat.and_two_pow_sub_one_eq_mod]
 show IntKind.i64.wrap ((BitVec.ofInt 64 n &&& BitVec.ofInt 64 65535).toNat : Nat) = n % 65536
 rw [key, IntKind.wrap_i64]
 omega
theorem ret_int {k : IntKind} {a b : Int} (h : a = b) : Ending.returned (.int k a) = .returned (.int k b) := by rw [h]
theorem wrapI_any (n : Int) (w : World) : Calls Tryd.prog 71 #[.int .i64 n] w fun e w' => e = .returned (.int .i64 (n % 65536)) ∧ w' = w := by
 go_enter Tryd.func71, Tryd.ntmps71
 go_wp2
 go_ret
 exact ⟨ret_int (i64_and65535 n), rfl⟩
theorem wrapS_any (n : Int) (w : World) : Calls Tryd.prog 66 #[.int .i64 n] w fun e w' => e = .returned (.int .i64 (n % 65536)) ∧ w' = w := by
 go_enter Tryd.func66, Tryd.ntmps66
 go_wp2
 go_ret
 exact ⟨ret_int (i64_and65535 n), rfl⟩
theorem isWord_eq (n : Int) : (n == n % 65536) = inB n 0 65535 := by
 unfold inB
 rw [Bool.eq_iff_iff]
 simp
 omega
theorem isWord_any (n : Int) (w : World) : Calls Tryd.prog 70 #[.int .i64 n] w fun e w' => e = .returned (.bool (inB n 0 65535)) ∧ w' = w := by
 rw [← isWord_eq]
 obtain ⟨q, hq⟩ : ∃ q, n % 65536 = q := ⟨_, rfl⟩
 have W := hide (fun w => hq ▸ wrapI_any n w)
 rw [hq]
 clear hq
 go_enter Tryd.func70, Tryd.ntmps70
 go_wp2_with (go_at_call 71; refine (uh W _).mono ?_; rintro e w' ⟨rfl, rfl⟩)
 go_ret
 exact ⟨rfl, rfl⟩
def bAt (xs : List UInt8) (i : Nat) : Int := ((xs.getD i 0).toNat : Int)
theorem bAt_bd (xs : List UInt8) (i : Nat) : 0 ≤ bAt xs i ∧ bAt xs i ≤ 255 := by
 unfold bAt
 have := (xs.getD i 0).toNat_lt
 omega
theorem sAt (s : ByteArray) (k : Nat) (h : k < s.size) : ((s[k]'h).toNat : Int) = bAt s.data.toList k := by
 unfold bAt
 rw [List.getD_eq_getElem?_getD, List.getElem?_eq_getElem (by simpa using h)]
 rfl
theorem str_ne {a b : ByteArray} (h : a ≠ b) : (a.toList == b.toList) = false := by
 rw [ByteArray.toList_eq, ByteArray.toList_eq]
 exact beq_eq_false_iff_ne.2 (fun e => h (bytes_inj e))
def smB (c : Int) : Bool := inB c 97 122
def dgB (c : Int) : Bool := inB c 48 57
def ldB (c : Int) : Bool := smB c || dgB c
theorem smI_any (c : Int) (w : World) : Calls Tryd.prog 59 #[.int .u8 c] w fun e w' => e = .returned (.bool (smB c)) ∧ w' = w := by
 unfold smB inB
 cases h : decide (97 ≤ c)
 ·
  go_enter Tryd.func59, Tryd.ntmps59
  go_wp2
  go_ret
  exact ⟨rfl, rfl⟩
 ·
  go_enter Tryd.func59, Tryd.ntmps59
  go_wp2
  go_ret
  exact ⟨rfl, rfl⟩
theorem dgI_any (c : Int) (w : World) : Calls Tryd.prog 69 #[.int .u8 c] w fun e w' => e = .returned (.bool (dgB c)) ∧ w' = w := by
 unfold dgB inB
 cases h : decide (48 ≤ c)
 ·
  go_enter Tryd.func69, Tryd.ntmps69
  go_wp2
  go_ret
  exact ⟨rfl, rfl⟩
 ·
  go_enter Tryd.func69, Tryd.ntmps69
  go_wp2
  go_ret
  exact ⟨rfl, rfl⟩
theorem ldI_any (c : Int) (w : World) : Calls Tryd.prog 60 #[.int .u8 c] w fun e w' => e = .returned (.bool (ldB c)) ∧ w' = w := by
 have H1 := hide (fun w => smI_any c w)
 have H2 := hide (fun w => dgI_any c w)
 unfold ldB
 generalize smB c = a at *
 generalize dgB c = b at *
 cases a
 ·
  go_enter Tryd.func60, Tryd.ntmps60
  go_wp2_with (first | (go_at_call 59; refine (uh H1 _).mono ?_; rintro e w' ⟨rfl, rfl⟩) | (go_at_call 69; refine (uh H2 _).mono ?_; rintro e w' ⟨rfl, rfl⟩))
  go_ret
  exact ⟨rfl, rfl⟩
 ·
  go_enter Tryd.func60, Tryd.ntmps60
  go_wp2_with (first | (go_at_call 59; refine (uh H1 _).mono ?_; rintro e w' ⟨rfl, rfl⟩) | (go_at_call 69; refine (uh H2 _).mono ?_; rintro e w' ⟨rfl, rfl⟩))
  go_ret
  exact ⟨rfl, rfl⟩
theorem smS_any (c : Int) (w : World) (h0 : 0 ≤ c) (h1 : c ≤ 255) : Calls Tryd.prog 37 #[.int .u8 c] w fun e w' => e = .returned (.bool (smB c)) ∧ w' = w := by
 unfold smB
 go_enter Tryd.func37, Tryd.ntmps37
 go_wp2_with (go_at_call 39; refine (in_any _ _ _ _).mono ?_; rintro e w' ⟨rfl, rfl⟩)
 go_ret
 exact ⟨rfl, rfl⟩
theorem dgS_any (c : Int) (w : World) (h0 : 0 ≤ c) (h1 : c ≤ 255) : Calls Tryd.prog 38 #[.int .u8 c] w fun e w' => e = .returned (.bool (dgB c)) ∧ w' = w := by
 unfold dgB
 go_enter Tryd.func38, Tryd.ntmps38
 go_wp2_with (go_at_call 39; refine (in_any _ _ _ _).mono ?_; rintro e w' ⟨rfl, rfl⟩)
 go_ret
 exact ⟨rfl, rfl⟩
def okAt (l : List UInt8) (i : Nat) : Bool := smB (bAt l i) || (decide (0 < i) && dgB (bAt l i))
def formB (l : List UInt8) : Bool := (List.range l.length).all (okAt l) && inB l.length 1 6
theorem formB_no {l : List UInt8} {k : Nat} (h : k < l.length) (hk : okAt l k = false) : formB l = false := by
 unfold formB
 have : (List.range l.length).all (okAt l) = false := by
  rw [List.all_eq_false]
  exact ⟨k, List.mem_range.2 h, by rw [hk]; decide⟩
 rw [this, Bool.false_and]
theorem formB_all {l : List UInt8} (h : ∀ k, k < l.length → okAt l k = true) : formB l = inB l.length 1 6 := by
 unfold formB
 have : (List.range l.length).all (okAt l) = true := by
  rw [List.all_eq_true]
  exact fun k hk => h k (List.mem_range.1 hk)
 rw [this, Bool.true_and]
theorem formB_len {l : List UInt8} (h : ¬ (1 ≤ l.length ∧ l.length ≤ 6)) : formB l = false := by
 unfold formB
 rw [inB_f _ _ _ (by omega), Bool.and_false]
theorem size_len (s : ByteArray) : s.data.toList.length = s.size := by simp
theorem empty_of (s : ByteArray) (h : s.size = 0) : s = ⟨#[]⟩ := by apply ByteArray.ext; exact Array.eq_empty_of_size_eq_zero h
theorem emp_no (s : ByteArray) (h : s.size ≠ 0) : s.toList.isEmpty = false := by
 rw [← decide_eq_emptyBytes]
 exact decide_eq_false (fun e => h (by rw [e]; rfl))
theorem formS_any (s : ByteArray) (w : World) (hmax : s.size ≤ 1099511627776) : Calls Tryd.prog 21 #[.string s] w fun e w' => e = .returned (.bool (formB s.data.toList)) ∧ w' = w := by
 have hl := size_len s
 obtain ⟨q, hq⟩ : ∃ q, formB s.data.toList = q := ⟨_, rfl⟩
 have NO := hide (fun k hk h => (formB_no (l := s.data.toList) (k := k) hk h).symm.trans hq)
 have YES := hide (fun h => (formB_all (l := s.data.toList) h).symm.trans hq)
 rw [hl] at NO YES
 rw [hq]
 clear hq
 go_enter Tryd.func21, Tryd.ntmps21
 go_wp2
 go_loop [3] (fun i => ∃ k : Nat, i = .int .i64 k ∧ k ≤ s.size ∧ Hid (∀ j, j < k → okAt s.data.toList j = true)) (fun i => s.size - (intOf i).toNat)
 case atStart => exact ⟨0, rfl, by omega, fun j hj => by omega⟩
 case round =>
  obtain ⟨k, rfl, hk, hd⟩ := hrel
  by_cases hlt : k < s.size
  ·
   have he := sAt s k hlt
   have hbd := bAt_bd s.data.toList k
   have N1 := hide (uh NO k hlt)
   have hd1 : okAt s.data.toList k = true → ∀ j, j < k + 1 → okAt s.data.toList j = true := fun h j hj => by
    by_cases e : j = k
    · subst e; exact h
    · exact hd.out j (by omega)
   have HD := hide hd1
   have S1 := hide (fun w => smS_any (bAt s.data.toList k) w hbd.1 hbd.2)
   have D1 := hide (fun w => dgS_any (bAt s.data.toList k) w hbd.1 hbd.2)
   have OK := hide (show okAt s.data.toList k = (smB (bAt s.data.toList k) || (decide (0 < k) && dgB (bAt s.data.toList k))) from rfl)
   generalize smB (bAt s.data.toList k) = p at S1 OK
   generalize dgB (bAt s.data.toList k) = r at D1 OK
   generalize bAt s.data.toList k = c at he hbd S1 D1
   clear hd hd1
   cases p
   ·
    by_cases hz : k = 0
    ·
     subst hz
     have E := hide (uh N1 (by rw [uh OK]; rfl))
     go_wp2_with (first | (go_at_call 37; refine (uh S1 _).mono ?_; rintro e w' ⟨rfl, rfl⟩) | (go_at_call 38; refine (uh D1 _).mono ?_; rintro e w' ⟨rfl, rfl⟩))
     go_ret
     exact ⟨by rw [← uh E]; rfl, rfl⟩
    ·
     have hz1 : ((k : Int) == 0) = false := beq_eq_false_iff_ne.2 (by omega)
     cases r
     ·
      have E := hide (uh N1 (by rw [uh OK]; simp))
      go_wp2_with (first | (go_at_call 37; refine (uh S1 _).mono ?_; rintro e w' ⟨rfl, rfl⟩) | (go_at_call 38; refine (uh D1 _).mono ?_; rintro e w' ⟨rfl, rfl⟩))
      go_ret
      exact ⟨by rw [← uh E]; rfl, rfl⟩
     ·
      have E := hide (uh HD (by rw [uh OK]; simp; omega))
      go_wp2_with (first | (go_at_call 37; refine (uh S1 _).mono ?_; rintro e w' ⟨rfl, rfl⟩) | (go_at_call 38; refine (uh D1 _).mono ?_; rintro e w' ⟨rfl, rfl⟩))
      go_round
      case rel => exact ⟨k + 1, by go_num, by omega, uh E⟩
      case measure => simp [intOf]; omega
   ·
    have E := hide (uh HD (by rw [uh OK]; rfl))
    go_wp2_with (first | (go_at_call 37; refine (uh S1 _).mono ?_; rintro e w' ⟨rfl, rfl⟩) | (go_at_call 38; refine (uh D1 _).mono ?_; rintro e w' ⟨rfl, rfl⟩))
    go_round
    case rel => exact ⟨k + 1, by go_num, by omega, uh E⟩
    case measure => simp [intOf]; omega
  ·
   have E := hide (uh YES (fun j hj => hd.out j (by omega)))
   clear hd
   go_wp2_with (go_at_call 39; refine (in_any _ _ _ _).mono ?_; rintro e w' ⟨rfl, rfl⟩)
   go_ret
   exact ⟨by rw [← uh E]; rfl, rfl⟩
theorem formI_any (s : ByteArray) (w : World) (hmax : s.size ≤ 1099511627776) : Calls Tryd.prog 45 #[.string s] w fun e w' => e = .returned (.bool (formB s.data.toList)) ∧ w' = w := by
 by_cases h0 : s.size = 0
 ·
  obtain rfl := empty_of s h0
  have E := hide (show false = formB (ByteArray.mk #[]).data.toList by decide)
  rw [← uh E]
  go_enter Tryd.func45, Tryd.ntmps45
  go_wp2
  go_ret
  exact ⟨rfl, rfl⟩
 ·
  have hl := size_len s
  have hemp := emp_no s h0
  by_cases h6 : 6 < s.size
  ·
   have E := hide (formB_len (l := s.data.toList) (by omega))
   rw [uh E]
   go_enter Tryd.func45, Tryd.ntmps45
   go_wp2
   go_ret
   exact ⟨rfl, rfl⟩
  ·
   have h6d : decide ((6 : Int) < (s.size : Int)) = false := by simp; omega
   have hlt0 : 0 < s.size := by omega
   have he := sAt s 0 hlt0
   have hbd := bAt_bd s.data.toList 0
   have S0 := hide (fun w => smI_any (bAt s.data.toList 0) w)
   have OK0 := hide (show okAt s.data.toList 0 = smB (bAt s.data.toList 0) by unfold okAt; simp)
   obtain ⟨q, hq⟩ : ∃ q, formB s.data.toList = q := ⟨_, rfl⟩
   have NO := hide (fun k hk h => (formB_no (l := s.data.toList) (k := k) hk h).symm.trans hq)
   have YES := hide (fun h => (formB_all (l := s.data.toList) h).symm.trans hq)
   rw [hl] at NO YES
   have IN := hide (show inB (s.size : Int) 1 6 = true from inB_t _ _ _ (by omega) (by omega))
   rw [hq]
   clear hq
   generalize smB (bAt s.data.toList 0) = p at S0 OK0
   have HE := hide he
   generalize bAt s.data.toList 0 = c0 at he hbd S0
   cases p
   ·
    have E := hide (uh NO 0 hlt0 (uh OK0))
    go_enter Tryd.func45, Tryd.ntmps45
    go_wp2_with (go_at_call 59; refine (uh S0 _).mono ?_; rintro e w' ⟨rfl, rfl⟩)
    go_ret
    exact ⟨by rw [← uh E]; rfl, rfl⟩
   ·
    go_enter Tryd.func45, Tryd.ntmps45
    go_wp2_with (go_at_call 59; refine (uh S0 _).mono ?_; rintro e w' ⟨rfl, rfl⟩)
    clear he hbd S0
    go_loop [19] (fun i => ∃ k : Nat, i = .int .i64 k ∧ k ≤ s.size ∧ Hid (∀ j, j < k → okAt s.data.toList j = true)) (fun i => s.size - (intOf i).toNat)
    case atStart => exact ⟨0, rfl, by omega, fun j hj => by omega⟩
    case round =>
     obtain ⟨k, rfl, hk, hd⟩ := hrel
     by_cases hlt : k < s.size
     ·
      have he := sAt s k hlt
      have hbd := bAt_bd s.data.toList k
      have N1 := hide (uh NO k hlt)
      have hd1 : ldB (bAt s.data.toList k) = true → ∀ j, j < k + 1 → okAt s.data.toList j = true := fun h j hj => by
       by_cases e : j = k
       ·
        subst e
        by_cases hz : j = 0
        · subst hz; exact uh OK0
        · unfold okAt; rw [decide_eq_true (by omega), Bool.true_and]; exact h
       · exact hd.out j (by omega)
      have HD := hide hd1
      have L1 := hide (fun w => ldI_any (bAt s.data.toList k) w)
      have OK := hide (show ldB (bAt s.data.toList k) = false → okAt s.data.toList k = false from fun h => by
       unfold ldB at h
       rw [Bool.or_eq_false_iff] at h
       unfold okAt
       rw [h.1, h.2]; simp)
      generalize ldB (bAt s.data.toList k) = p at L1 OK HD
      generalize bAt s.data.toList k = c at he hbd L1
      clear hd hd1
      cases p
      ·
       have E := hide (uh N1 (uh OK rfl))
       go_wp2_with (go_at_call 60; refine (uh L1 _).mono ?_; rintro e w' ⟨rfl, rfl⟩)
       go_ret
       exact ⟨by rw [← uh E]; rfl, rfl⟩
      ·
       have HE2 := hide (uh HD rfl)
       go_wp2_with (go_at_call 60; refine (uh L1 _).mono ?_; rintro e w' ⟨rfl, rfl⟩)
       go_round
       case rel => exact ⟨k + 1, by go_num, by omega, uh HE2⟩
       case measure => simp [intOf]; omega
     ·
      have E := hide ((uh IN).symm.trans (uh YES (fun j hj => hd.out j (by omega))))
      clear hd
      go_wp2
      go_ret
      exact ⟨by rw [← uh E]; rfl, rfl⟩
theorem wpList_index_at {P : Program} {ops : Array Oper} {rest : List Oper} {o : Oper} {a : Act} {w : World} {Q : Exit → Act → World → Prop} (hgd : o.guard = none) (xt : TypeId) (x ix : Operand) (ho : o.op = .index xt x ix) (cs : Array Value) (i : Int) (v : Value)
  (hx : a.eval x = .agg cs) (hi : a.eval ix = .int .i64 i) (hr : ∀ w, (Instr.index xt (.agg cs) (.int .i64 i)).run P w = .ok v w) (h : wpList P ops Q rest (a.put o.dst v) w) : wpList P ops Q (o :: rest) a w :=
 wpList_plain hgd fun _ hK => by
  unfold Oper.wp execOp
  simp only [ho, hx, hi, hr, Sem.run_bind, Sem.run_pure, Result.andThen_ok]
  exact hK _ _ h
def eqS (a b : ByteArray) : Bool := a.toList == b.toList
theorem eqS_iff (a b : ByteArray) : eqS a b = true ↔ a = b := by
 unfold eqS
 rw [ByteArray.toList_eq, ByteArray.toList_eq]
 exact ⟨fun h => bytes_inj (eq_of_beq h), fun h => by rw [h]; exact beq_self_eq_true _⟩
def E0 : ByteArray := ⟨#[]⟩
def hasS (L : List ByteArray) (s : ByteArray) : Bool := L.any (fun t => eqS t s)
theorem hasS_hit {L : List ByteArray} {s : ByteArray} {k : Nat} (h : k < L.length) (he : eqS (L.getD k E0) s = true) : hasS L s = true := by
 unfold hasS
 rw [List.any_eq_true]
 refine ⟨L[k], List.getElem_mem _, ?_⟩
 rw [List.getD_eq_getElem?_getD, List.getElem?_eq_getElem h] at he
 exact he
theorem hasS_miss {L : List ByteArray} {s : ByteArray} (h : ∀ k, k < L.length → eqS (L.getD k E0) s = false) : hasS L s = false := by
 unfold hasS
 rw [List.any_eq_false]
 intro t ht
 obtain ⟨k, hk, rfl⟩ := List.getElem_of_mem ht
 have := h k hk
 rw [List.getD_eq_getElem?_getD, List.getElem?_eq_getElem hk] at this
 simp only [Option.getD_some] at this
 rw [this]
 decide
theorem hasS_iff {L : List ByteArray} {s : ByteArray} : hasS L s = true ↔ s ∈ L := by
 unfold hasS
 rw [List.any_eq_true]
 constructor
 ·
  rintro ⟨t, ht, he⟩
  rw [eqS_iff] at he
  exact he ▸ ht
 · exact fun h => ⟨s, h, (eqS_iff _ _).2 rfl⟩
def wOp : List ByteArray := [⟨#[109, 111, 118]⟩, ⟨#[99, 109, 112]⟩, ⟨#[98, 105, 99]⟩, ⟨#[98, 105, 115]⟩, ⟨#[97, 100, 100]⟩, ⟨#[115, 117, 98]⟩, ⟨#[99, 108, 114]⟩, ⟨#[105, 110, 99]⟩, ⟨#[100, 101, 99]⟩, ⟨#[110, 101, 103]⟩, ⟨#[116, 115, 116]⟩, ⟨#[97, 115, 114]⟩, ⟨#[97, 115, 108]⟩, ⟨#[106, 109, 112]⟩, ⟨#[106, 115, 114]⟩, ⟨#[114, 116, 115]⟩, ⟨#[98, 114]⟩, ⟨#[98, 110, 101]⟩, ⟨#[98, 101, 113]⟩, ⟨#[98, 103, 101]⟩, ⟨#[98, 108, 116]⟩, ⟨#[104, 97, 108, 116]⟩, ⟨#[101, 109, 116]⟩]
def wRg : List ByteArray := [⟨#[114, 48]⟩, ⟨#[114, 49]⟩, ⟨#[114, 50]⟩, ⟨#[114, 51]⟩, ⟨#[114, 52]⟩, ⟨#[114, 53]⟩, ⟨#[115, 112]⟩, ⟨#[112, 99]⟩]
def opL : List ByteArray := E0 :: wOp
def keptL : List ByteArray := wOp ++ wRg
def keptB (s : ByteArray) : Bool := hasS keptL s
theorem keptB_op {s : ByteArray} (h0 : s.size ≠ 0) {k : Nat} (hk : k < 24) (he : eqS (opL.getD k E0) s = true) : keptB s = true := by
 have h1 : s ∈ opL := hasS_iff.1 (hasS_hit (L := opL) hk he)
 unfold keptB
 rw [hasS_iff]
 unfold opL at h1
 rcases List.mem_cons.1 h1 with e | h
 · rw [e] at h0; exact absurd rfl h0
 · exact List.mem_append_left _ h
theorem keptB_rg {s : ByteArray} {k : Nat} (hk : k < 8) (he : eqS (wRg.getD k E0) s = true) : keptB s = true := by
 have h1 : s ∈ wRg := hasS_iff.1 (hasS_hit (L := wRg) hk he)
 unfold keptB
 rw [hasS_iff]
 exact List.mem_append_right _ h1
theorem keptB_no {s : ByteArray} (h1 : ∀ k, k < 24 → eqS (opL.getD k E0) s = false) (h2 : ∀ k, k < 8 → eqS (wRg.getD k E0) s = false) : keptB s = false := by
 cases h : keptB s
 · rfl
 ·
  unfold keptB at h
  rw [hasS_iff] at h
  rcases List.mem_append.1 h with h | h
  ·
   have e := hasS_iff.2 (List.mem_cons_of_mem E0 h)
   rw [hasS_miss (L := E0 :: wOp) h1] at e
   cases e
  ·
   have e := hasS_iff.2 h
   rw [hasS_miss (L := wRg) h2] at e
   cases e
theorem keptB_empty : keptB ⟨#[]⟩ = false := by decide +kernel
def atV (L : List ByteArray) (s : ByteArray) : Int := if hasS L s = true then ((L.findIdx (fun t => eqS t s) : Nat) : Int) else -1
theorem atV_yes {L : List ByteArray} {s : ByteArray} (h : hasS L s = true) : 0 ≤ atV L s := by unfold atV; rw [if_pos h]; omega
theorem atV_no {L : List ByteArray} {s : ByteArray} (h : hasS L s = false) : atV L s = -1 := by unfold atV; rw [h]; rfl
theorem atV_hit {L : List ByteArray} {s : ByteArray} {k : Nat} (hk : k < L.length) (hm : ∀ j, j < k → eqS (L.getD j E0) s = false) (he : eqS (L.getD k E0) s = true) : atV L s = k := by
 unfold atV
 rw [if_pos (hasS_hit hk he)]
 have : L.findIdx (fun t => eqS t s) = k := by
  rw [List.findIdx_eq hk]
  refine ⟨?_, fun j hj => ?_⟩
  ·
   rw [List.getD_eq_getElem?_getD, List.getElem?_eq_getElem hk] at he
   exact he
  ·
   have := hm j hj
   rw [List.getD_eq_getElem?_getD, List.getElem?_eq_getElem (by omega)] at this
   exact this
 rw [this]
def RdS (w : World) (g : Nat) (L : List ByteArray) : Prop := ∀ j, j < L.length → w.cell? ⟨g, j, none⟩ = some (.string (L.getD j E0))
theorem at_any (L : List ByteArray) (s : ByteArray) (g n cap : Nat) (w : World) (hn : L.length = n) (hm : n ≤ 1000000) (hr : RdS w g L) : Calls Tryd.prog 22 #[.slice (some ⟨g, 0, none⟩) n cap, .string s] w fun e w' => e = .returned (.int .i64 (atV L s)) ∧ w' = w := by
 obtain ⟨v, hv⟩ : ∃ v, atV L s = v := ⟨_, rfl⟩
 have HIT := hide (fun k (hk : k < n) hm he => (atV_hit (L := L) (s := s) (k := k) (by omega) hm he).symm.trans hv)
 have MISS := hide (fun (h : ∀ k, k < n → eqS (L.getD k E0) s = false) => (atV_no (L := L) (s := s) (hasS_miss (fun k hk => h k (by omega)))).symm.trans hv)
 have RD := hide (fun j (hj : j < n) => hr j (by omega))
 rw [hv]
 clear hv hr
 go_enter Tryd.func22, Tryd.ntmps22
 go_wp2
 go_loop [5] (fun i => ∃ k : Nat, i = .int .i64 k ∧ k ≤ n ∧ Hid (∀ j, j < k → eqS (L.getD j E0) s = false)) (fun i => n - (intOf i).toNat)
 case atStart => exact ⟨0, rfl, by omega, fun j hj => by omega⟩
 case round =>
  obtain ⟨k, rfl, hk, hd⟩ := hrel
  by_cases hlt : k < n
  ·
   have hc := uh RD k hlt
   have H1 := hide (uh HIT k hlt hd.out)
   have H2 := hide (show eqS (L.getD k E0) s = false → ∀ j, j < k + 1 → eqS (L.getD j E0) s = false from fun h j hj => by
    by_cases e : j = k
    · subst e; exact h
    · exact hd.out j (by omega))
   generalize L.getD k E0 = T at hc H1 H2
   clear hd
   cases hq : (T.toList == s.toList)
   ·
    have E := hide (uh H2 hq)
    clear H1 H2
    go_wp2
    go_round
    case rel => exact ⟨k + 1, by go_num, by omega, uh E⟩
    case measure => simp [intOf]; omega
   ·
    have E := hide (uh H1 hq)
    clear H1 H2
    go_wp2
    go_ret
    exact ⟨by rw [← uh E]; rfl, rfl⟩
  ·
   have E := hide (uh MISS (fun j hj => hd.out j (by omega)))
   clear hd
   go_wp2
   go_ret
   exact ⟨by rw [← uh E]; rfl, rfl⟩
theorem kept_any (w : World) : Calls Tryd.prog 23 #[] w fun e w' => e = .returned (.slice (some ⟨w.heap.size, 0, none⟩) 31 31) ∧ RdS w' w.heap.size keptL ∧ Below w.heap.size w w' := by
 have HR := hide (show RdS (w.alloc (.cells (keptL.map Value.string).toArray 9)) w.heap.size keptL from fun j hj => by
  rw [World.cell?_alloc_at _ _ _ _ rfl, List.getElem?_toArray, List.getElem?_map]
  rw [List.getElem?_eq_getElem hj, List.getD_eq_getElem?_getD, List.getElem?_eq_getElem hj]
  rfl)
 have HB := hide ((Below.refl w.heap.size w).alloc (Nat.le_refl _) (.cells (keptL.map Value.string).toArray 9))
 go_enter Tryd.func23, Tryd.ntmps23
 go_wp2
 go_ret
 exact ⟨rfl, uh HR, uh HB⟩
def opC : Array Value := (opL.map Value.string).toArray
def rgC : Array Value := (wRg.map Value.string).toArray
def TabK (w : World) : Prop := (∃ t fr, w.heap[0]? = some (.cells opC t fr)) ∧ (∃ t fr, w.heap[1]? = some (.cells rgC t fr))
theorem TabK.later {w w' : World} {B : Nat} (h : TabK w) (hb : Below B w w') (h0 : 0 < B) (h1 : 1 < B) : TabK w' := by
 obtain ⟨⟨t, f, e⟩, ⟨t', f', e'⟩⟩ := h
 exact ⟨⟨t, f, (hb.block _ h0).trans e⟩, ⟨t', f', (hb.block _ h1).trans e'⟩⟩
theorem TabK.lt {w : World} (h : TabK w) : 0 < w.heap.size ∧ 1 < w.heap.size := by
 obtain ⟨⟨t, f, e⟩, ⟨t', f', e'⟩⟩ := h
 exact ⟨(Array.getElem?_eq_some_iff.1 e).1, (Array.getElem?_eq_some_iff.1 e').1⟩
theorem TabK.next {w w' : World} (h : TabK w) (hb : Below w.heap.size w w') : TabK w' := h.later hb h.lt.1 h.lt.2
theorem ixO_0 (w : World) : (Instr.index 92 (.agg opC) (.int .i64 ((0 : Nat) : Int))).run Tryd.prog w = .ok (.string (opL.getD 0 E0)) w := by kernel_rfl
theorem ixO_1 (w : World) : (Instr.index 92 (.agg opC) (.int .i64 ((1 : Nat) : Int))).run Tryd.prog w = .ok (.string (opL.getD 1 E0)) w := by kernel_rfl
theorem ixO_2 (w : World) : (Instr.index 92 (.agg opC) (.int .i64 ((2 : Nat) : Int))).run Tryd.prog w = .ok (.string (opL.getD 2 E0)) w := by kernel_rfl
theorem ixO_3 (w : World) : (Instr.index 92 (.agg opC) (.int .i64 ((3 : Nat) : Int))).run Tryd.prog w = .ok (.string (opL.getD 3 E0)) w := by kernel_rfl
theorem ixO_4 (w : World) : (Instr.index 92 (.agg opC) (.int .i64 ((4 : Nat) : Int))).run Tryd.prog w = .ok (.string (opL.getD 4 E0)) w := by kernel_rfl
theorem ixO_5 (w : World) : (Instr.index 92 (.agg opC) (.int .i64 ((5 : Nat) : Int))).run Tryd.prog w = .ok (.string (opL.getD 5 E0)) w := by kernel_rfl
theorem ixO_6 (w : World) : (Instr.index 92 (.agg opC) (.int .i64 ((6 : Nat) : Int))).run Tryd.prog w = .ok (.string (opL.getD 6 E0)) w := by kernel_rfl
theorem ixO_7 (w : World) : (Instr.index 92 (.agg opC) (.int .i64 ((7 : Nat) : Int))).run Tryd.prog w = .ok (.string (opL.getD 7 E0)) w := by kernel_rfl
theorem ixO_8 (w : World) : (Instr.index 92 (.agg opC) (.int .i64 ((8 : Nat) : Int))).run Tryd.prog w = .ok (.string (opL.getD 8 E0)) w := by kernel_rfl
theorem ixO_9 (w : World) : (Instr.index 92 (.agg opC) (.int .i64 ((9 : Nat) : Int))).run Tryd.prog w = .ok (.string (opL.getD 9 E0)) w := by kernel_rfl
theorem ixO_10 (w : World) : (Instr.index 92 (.agg opC) (.int .i64 ((10 : Nat) : Int))).run Tryd.prog w = .ok (.string (opL.getD 10 E0)) w := by kernel_rfl
theorem ixO_11 (w : World) : (Instr.index 92 (.agg opC) (.int .i64 ((11 : Nat) : Int))).run Tryd.prog w = .ok (.string (opL.getD 11 E0)) w := by kernel_rfl
theorem ixO_12 (w : World) : (Instr.index 92 (.agg opC) (.int .i64 ((12 : Nat) : Int))).run Tryd.prog w = .ok (.string (opL.getD 12 E0)) w := by kernel_rfl
theorem ixO_13 (w : World) : (Instr.index 92 (.agg opC) (.int .i64 ((13 : Nat) : Int))).run Tryd.prog w = .ok (.string (opL.getD 13 E0)) w := by kernel_rfl
theorem ixO_14 (w : World) : (Instr.index 92 (.agg opC) (.int .i64 ((14 : Nat) : Int))).run Tryd.prog w = .ok (.string (opL.getD 14 E0)) w := by kernel_rfl
theorem ixO_15 (w : World) : (Instr.index 92 (.agg opC) (.int .i64 ((15 : Nat) : Int))).run Tryd.prog w = .ok (.string (opL.getD 15 E0)) w := by kernel_rfl
theorem ixO_16 (w : World) : (Instr.index 92 (.agg opC) (.int .i64 ((16 : Nat) : Int))).run Tryd.prog w = .ok (.string (opL.getD 16 E0)) w := by kernel_rfl
theorem ixO_17 (w : World) : (Instr.index 92 (.agg opC) (.int .i64 ((17 : Nat) : Int))).run Tryd.prog w = .ok (.string (opL.getD 17 E0)) w := by kernel_rfl
theorem ixO_18 (w : World) : (Instr.index 92 (.agg opC) (.int .i64 ((18 : Nat) : Int))).run Tryd.prog w = .ok (.string (opL.getD 18 E0)) w := by kernel_rfl
theorem ixO_19 (w : World) : (Instr.index 92 (.agg opC) (.int .i64 ((19 : Nat) : Int))).run Tryd.prog w = .ok (.string (opL.getD 19 E0)) w := by kernel_rfl
theorem ixO_20 (w : World) : (Instr.index 92 (.agg opC) (.int .i64 ((20 : Nat) : Int))).run Tryd.prog w = .ok (.string (opL.getD 20 E0)) w := by kernel_rfl
theorem ixO_21 (w : World) : (Instr.index 92 (.agg opC) (.int .i64 ((21 : Nat) : Int))).run Tryd.prog w = .ok (.string (opL.getD 21 E0)) w := by kernel_rfl
theorem ixO_22 (w : World) : (Instr.index 92 (.agg opC) (.int .i64 ((22 : Nat) : Int))).run Tryd.prog w = .ok (.string (opL.getD 22 E0)) w := by kernel_rfl
theorem ixO_23 (w : World) : (Instr.index 92 (.agg opC) (.int .i64 ((23 : Nat) : Int))).run Tryd.prog w = .ok (.string (opL.getD 23 E0)) w := by kernel_rfl
theorem ixO (k : Nat) (h : k < 24) (w : World) : (Instr.index 92 (.agg opC) (.int .i64 k)).run Tryd.prog w = .ok (.string (opL.getD k E0)) w := by
 have hk : k = 0 ∨ k = 1 ∨ k = 2 ∨ k = 3 ∨ k = 4 ∨ k = 5 ∨ k = 6 ∨ k = 7 ∨ k = 8 ∨ k = 9 ∨ k = 10 ∨ k = 11 ∨ k = 12 ∨ k = 13 ∨ k = 14 ∨ k = 15 ∨ k = 16 ∨ k = 17 ∨ k = 18 ∨ k = 19 ∨ k = 20 ∨ k = 21 ∨ k = 22 ∨ k = 23 := by omega
 rcases hk with rfl | rfl | rfl | rfl | rfl | rfl | rfl | rfl | rfl | rfl | rfl | rfl | rfl | rfl | rfl | rfl | rfl | rfl | rfl | rfl | rfl | rfl | rfl | rfl
 · exact ixO_0 w
 · exact ixO_1 w
 · exact ixO_2 w
 · exact ixO_3 w
 · exact ixO_4 w
 · exact ixO_5 w
 · exact ixO_6 w
 · exact ixO_7 w
 · exact ixO_8 w
 · exact ixO_9 w
 · exact ixO_10 w
 · exact ixO_11 w
 · exact ixO_12 w
 · exact ixO_13 w
 · exact ixO_14 w
 · exact ixO_15 w
 · exact ixO_16 w
 · exact ixO_17 w
 · exact ixO_18 w
 · exact ixO_19 w
 · exact ixO_20 w
 · exact ixO_21 w
 · exact ixO_22 w
 · exact ixO_23 w
theorem ixR_0 (w : World) : (Instr.index 93 (.agg rgC) (.int .i64 ((0 : Nat) : Int))).run Tryd.prog w = .ok (.string (wRg.getD 0 E0)) w := by kernel_rfl
theorem ixR_1 (w : World) : (Instr.index 93 (.agg rgC) (.int .i64 ((1 : Nat) : Int))).run Tryd.prog w = .ok (.string (wRg.getD 1 E0)) w := by kernel_rfl
theorem ixR_2 (w : World) : (Instr.index 93 (.agg rgC) (.int .i64 ((2 : Nat) : Int))).run Tryd.prog w = .ok (.string (wRg.getD 2 E0)) w := by kernel_rfl
theorem ixR_3 (w : World) : (Instr.index 93 (.agg rgC) (.int .i64 ((3 : Nat) : Int))).run Tryd.prog w = .ok (.string (wRg.getD 3 E0)) w := by kernel_rfl
theorem ixR_4 (w : World) : (Instr.index 93 (.agg rgC) (.int .i64 ((4 : Nat) : Int))).run Tryd.prog w = .ok (.string (wRg.getD 4 E0)) w := by kernel_rfl
theorem ixR_5 (w : World) : (Instr.index 93 (.agg rgC) (.int .i64 ((5 : Nat) : Int))).run Tryd.prog w = .ok (.string (wRg.getD 5 E0)) w := by kernel_rfl
theorem ixR_6 (w : World) : (Instr.index 93 (.agg rgC) (.int .i64 ((6 : Nat) : Int))).run Tryd.prog w = .ok (.string (wRg.getD 6 E0)) w := by kernel_rfl
theorem ixR_7 (w : World) : (Instr.index 93 (.agg rgC) (.int .i64 ((7 : Nat) : Int))).run Tryd.prog w = .ok (.string (wRg.getD 7 E0)) w := by kernel_rfl
theorem ixR (k : Nat) (h : k < 8) (w : World) : (Instr.index 93 (.agg rgC) (.int .i64 k)).run Tryd.prog w = .ok (.string (wRg.getD k E0)) w := by
 have hk : k = 0 ∨ k = 1 ∨ k = 2 ∨ k = 3 ∨ k = 4 ∨ k = 5 ∨ k = 6 ∨ k = 7 := by omega
 rcases hk with rfl | rfl | rfl | rfl | rfl | rfl | rfl | rfl
 · exact ixR_0 w
 · exact ixR_1 w
 · exact ixR_2 w
 · exact ixR_3 w
 · exact ixR_4 w
 · exact ixR_5 w
 · exact ixR_6 w
 · exact ixR_7 w
theorem szO : (Tryd.prog.info? 92).map (·.size) = some opC.size := by kernel_rfl
theorem szR : (Tryd.prog.info? 93).map (·.size) = some rgC.size := by kernel_rfl
theorem keptI_any (s : ByteArray) (w : World) (ht : TabK w) : Calls Tryd.prog 46 #[.string s] w fun e w' => e = .returned (.bool (keptB s)) ∧ w' = w := by
 by_cases h0 : s.size = 0
 ·
  obtain rfl := empty_of s h0
  rw [keptB_empty]
  go_enter Tryd.func46, Tryd.ntmps46
  go_wp2
  go_ret
  exact ⟨rfl, rfl⟩
 ·
  have hemp := emp_no s h0
  obtain ⟨⟨t0, f0, R0⟩, ⟨t1, f1, R1⟩⟩ := ht
  obtain ⟨q, hq⟩ : ∃ q, keptB s = q := ⟨_, rfl⟩
  have HO := hide (fun k hk he => (keptB_op (s := s) h0 (k := k) hk he).symm.trans hq)
  have HR := hide (fun k hk he => (keptB_rg (s := s) (k := k) hk he).symm.trans hq)
  have HN := hide (fun h1 h2 => (keptB_no (s := s) h1 h2).symm.trans hq)
  rw [hq]
  have R0' := hide R0
  have R1' := hide R1
  clear hq R0 R1
  go_enter Tryd.func46, Tryd.ntmps46
  go_wp2_with (refine wpList_load_row rfl 92 _ rfl 0 rfl t0 opC f0 _ (uh R0') Tryd.underlying92 rfl szO ?_)
  go_loop [10] (fun i => ∃ k : Nat, i = .int .i64 k ∧ k ≤ 24 ∧ Hid (∀ j, j < k → eqS (opL.getD j E0) s = false)) (fun i => 24 - (intOf i).toNat)
  case atStart => exact ⟨0, rfl, by omega, fun j hj => by omega⟩
  case round =>
   obtain ⟨k, rfl, hk, hd⟩ := hrel
   by_cases hlt : k < 24
   ·
    have IX := hide (ixO k hlt)
    have H1 := hide (uh HO k hlt)
    have H2 := hide (show eqS (opL.getD k E0) s = false → ∀ j, j < k + 1 → eqS (opL.getD j E0) s = false from fun h j hj => by
     by_cases e : j = k
     · subst e; exact h
     · exact hd.out j (by omega))
    generalize opL.getD k E0 = T at IX H1 H2
    clear hd HO HR HN
    cases hq : (T.toList == s.toList)
    ·
     have E := hide (uh H2 hq)
     clear H1 H2
     go_wp2_with (refine wpList_index_at rfl 92 _ _ rfl _ _ _ rfl rfl (uh IX) ?_)
     go_round
     case rel => exact ⟨k + 1, by go_num, by omega, uh E⟩
     case measure => simp [intOf]; omega
    ·
     have E := hide (uh H1 hq)
     clear H1 H2
     go_wp2_with (refine wpList_index_at rfl 92 _ _ rfl _ _ _ rfl rfl (uh IX) ?_)
     go_ret
     exact ⟨by rw [← uh E]; rfl, rfl⟩
   ·
    have HN2 := hide (uh HN (fun j hj => hd.out j (by omega)))
    clear hd HN HO
    go_wp2_with (refine wpList_load_row rfl 93 _ rfl 1 rfl t1 rgC f1 _ (uh R1') Tryd.underlying93 rfl szR ?_)
    go_loop [18] (fun i => ∃ k : Nat, i = .int .i64 k ∧ k ≤ 8 ∧ Hid (∀ j, j < k → eqS (wRg.getD j E0) s = false)) (fun i => 8 - (intOf i).toNat)
    case atStart => exact ⟨0, rfl, by omega, fun j hj => by omega⟩
    case round =>
     clear hlt hk
     obtain ⟨k, rfl, hk, hd⟩ := hrel
     by_cases hlt : k < 8
     ·
      have IX := hide (ixR k hlt)
      have H1 := hide (uh HR k hlt)
      have H2 := hide (show eqS (wRg.getD k E0) s = false → ∀ j, j < k + 1 → eqS (wRg.getD j E0) s = false from fun h j hj => by
       by_cases e : j = k
       · subst e; exact h
       · exact hd.out j (by omega))
      generalize wRg.getD k E0 = T at IX H1 H2
      clear hd HR HN2
      cases hq : (T.toList == s.toList)
      ·
       have E := hide (uh H2 hq)
       clear H1 H2
       go_wp2_with (refine wpList_index_at rfl 93 _ _ rfl _ _ _ rfl rfl (uh IX) ?_)
       go_round
       case rel => exact ⟨k + 1, by go_num, by omega, uh E⟩
       case measure => simp [intOf]; omega
      ·
       have E := hide (uh H1 hq)
       clear H1 H2
       go_wp2_with (refine wpList_index_at rfl 93 _ _ rfl _ _ _ rfl rfl (uh IX) ?_)
       go_ret
       exact ⟨by rw [← uh E]; rfl, rfl⟩
     ·
      have E := hide (uh HN2 (fun j hj => hd.out j (by omega)))
      clear hd HN2 HR
      go_wp2
      go_ret
      exact ⟨by rw [← uh E]; rfl, rfl⟩
structure Tk where
 k : Int
 n : Int
 s : ByteArray
def nameB (s : ByteArray) : Bool := formB s.data.toList && !keptB s
theorem nameI_any (s : ByteArray) (w : World) (hmax : s.size ≤ 1099511627776) (ht : TabK w) : Calls Tryd.prog 30 #[.string s] w fun e w' => e = .returned (.bool (nameB s)) ∧ w' = w := by
 have H1 := hide (formI_any s w hmax)
 have H2 := hide (keptI_any s w ht)
 unfold nameB
 generalize formB s.data.toList = p at *
 generalize keptB s = q at *
 clear ht
 cases p
 ·
  go_enter Tryd.func30, Tryd.ntmps30
  go_wp2_with (first | (go_at_call 45; refine (uh H1).mono ?_; rintro e w' ⟨rfl, rfl⟩) | (go_at_call 46; refine (uh H2).mono ?_; rintro e w' ⟨rfl, rfl⟩))
  go_ret
  exact ⟨rfl, rfl⟩
 ·
  go_enter Tryd.func30, Tryd.ntmps30
  go_wp2_with (first | (go_at_call 45; refine (uh H1).mono ?_; rintro e w' ⟨rfl, rfl⟩) | (go_at_call 46; refine (uh H2).mono ?_; rintro e w' ⟨rfl, rfl⟩))
  go_ret
  exact ⟨rfl, rfl⟩
theorem nameS_any (s : ByteArray) (w : World) (hmax : s.size ≤ 1099511627776) : Calls Tryd.prog 11 #[.string s] w fun e w' => e = .returned (.bool (nameB s)) ∧ Below w.heap.size w w' := by
 have H1 := hide (formS_any s w hmax)
 have HY := hide (fun h => atV_yes (L := keptL) (s := s) h)
 have HN := hide (fun h => atV_no (L := keptL) (s := s) h)
 have HA := hide (fun w1 (hr : RdS w1 w.heap.size keptL) => at_any keptL s w.heap.size 31 31 w1 rfl (by omega) hr)
 have HK := hide (kept_any w)
 unfold nameB keptB
 generalize formB s.data.toList = p at *
 generalize hasS keptL s = q at *
 generalize atV keptL s = v at *
 cases p
 ·
  go_enter Tryd.func11, Tryd.ntmps11
  go_wp2_with (go_at_call 21; refine (uh H1).mono ?_; rintro e w' ⟨rfl, rfl⟩)
  go_ret
  exact ⟨rfl, Below.refl _ _⟩
 ·
  have E := hide (show (decide (v < 0)) = !q by
   cases q
   · rw [uh HN rfl]; rfl
   ·
    have := uh HY rfl
    simp
    omega)
  go_enter Tryd.func11, Tryd.ntmps11
  go_wp2_with (first | (go_at_call 21; refine (uh H1).mono ?_; rintro e w' ⟨rfl, rfl⟩) | (go_at_call 23; refine (uh HK).mono ?_; rintro e w1 ⟨rfl, hr1, hb1⟩) | (go_at_call 22; refine (uh HA _ hr1).mono ?_; rintro e w' ⟨rfl, rfl⟩))
  go_ret
  exact ⟨by rw [← uh E]; rfl, hb1⟩
theorem below_new (w : World) (o : Obj) : Below w.heap.size w (w.alloc o) := (Below.refl _ _).alloc (Nat.le_refl _) _
section
theorem own : ownKnob Tryd.prog.godebug = none := by kernel_rfl
theorem laidOut : laidOutB Tryd.prog = true := by kernel_rfl
section
variable {H : Type} {enc : TypeId × Value → H} {W : World} {b0 base : Nat} {spare : TypeId → Bool} {held : Bool}
end
def strData {H : Type} (L : List ByteArray) : DataW H := .agg (L.map fun s => .lit (.string s.data.toList))
theorem cells_of_strs {H : Type} {enc : TypeId × Value → H} {P : Program} {w : World} {base : Nat} {sp : Nat → Bool} {held : Bool} {fuel : Nat} {t e : TypeId} {n : Nat} {cs : List Value} {L : List ByteArray} {p : List MemPlace}
  (ht : P.underlying t = some (.array n e)) (he : P.underlying e = some .string) (hce : P.cellsOf e = 1) (hct : P.cellsOf t = n)
  (h : DataW.trod enc P w base sp held fuel t cs = some (strData L, p)) : cs = L.map Value.string := by
 cases fuel with
 | zero => simp [DataW.trod] at h
 | succ fuel =>
  simp only [DataW.trod, ht, hce, hct, Nat.mul_one] at h
  split at h
  ·
   rename_i hl
   obtain ⟨xs, hm, hx⟩ := Option.map_eq_some_iff.1 h
   have hxs : xs.map (·.1) = L.map fun s => (DataW.lit (.string s.data.toList) : DataW H) := by
    have := congrArg Prod.fst hx
    simpa [strData] using this
   have hxl : xs.length = n := by simpa using Lib.mapM_length hm
   have hzl : L.length = n := by
    have := congrArg List.length hxs
    simp at this
    omega
   apply List.ext_getElem?
   intro i
   by_cases hi : i < n
   ·
    obtain ⟨b, hb, hf⟩ := Lib.mapM_at hm i i (by simp [hi])
    obtain ⟨z, hc, rfl, _⟩ := DataW.trod_string he hf
    have h1 : cs[i]? = some (.string z) := by
     have := congrArg (·[0]?) hc
     simpa [List.getElem?_take, List.getElem?_drop] using this
    have h2 : (xs.map (·.1))[i]? = some (DataW.lit (.string z.data.toList) : DataW H) := by simp [hb]
    rw [hxs] at h2
    simp only [List.getElem?_map, Option.map_eq_some_iff, DataW.lit.injEq, Lit.string.injEq] at h2
    obtain ⟨z', hz', e⟩ := h2
    obtain rfl := bytes_inj e
    simp [h1, hz']
   · rw [List.getElem?_eq_none (by omega), List.getElem?_eq_none (by simp; omega)]
  · cases h
theorem strs_of_head {P : Program} {W : World} {name : String} {L : List ByteArray} {rest : List (String × DataW Unit)} {g : Nat} {t e : TypeId} {n : Nat}
  (hg : P.globalNamed name = some g) (hty : (P.globals[g]?).map (·.type) = some t) (ht : P.underlying t = some (.array n e)) (he : P.underlying e = some .string) (hce : P.cellsOf e = 1) (hct : P.cellsOf t = n)
  (h : laidMet P ((name, strData L) :: rest) W) : ∃ u fr, W.heap[g]? = some (.cells (L.map Value.string).toArray u fr) := by
 obtain ⟨ps, ⟨g', t', cs, fuel, p, q, hg', ht', hvar, hd, _, _⟩, _⟩ := h
 obtain rfl := Option.some.inj (hg.symm.trans hg')
 obtain rfl := Option.some.inj (hty.symm.trans ht')
 have hcs := cells_of_strs ht he hce hct hd
 unfold World.var? at hvar
 rw [hg] at hvar
 simp only [Option.bind_some] at hvar
 split at hvar
 ·
  rename_i c u fr hh
  cases hvar
  exact ⟨u, fr, by rw [hh, ← hcs]⟩
 · cases hvar
theorem gOp : Tryd.prog.globalNamed "loop.example/g00329/impl.opWords" = some 0 := by kernel_rfl
theorem tOp : (Tryd.prog.globals[0]?).map (·.type) = some 92 := by kernel_rfl
theorem gRg : Tryd.prog.globalNamed "loop.example/g00329/impl.regWords" = some 1 := by kernel_rfl
theorem tRg : (Tryd.prog.globals[1]?).map (·.type) = some 93 := by kernel_rfl
theorem opD_eq : (Rows.laid_loop_example_g00329_impl_opWords : DataW Unit) = strData opL := by kernel_rfl
theorem rgD_eq : (Rows.laid_loop_example_g00329_impl_regWords : DataW Unit) = strData wRg := by kernel_rfl
theorem tabK_of {W : World} (h : laidMet Tryd.prog [("loop.example/g00329/impl.opWords", Rows.laid_loop_example_g00329_impl_opWords), ("loop.example/g00329/impl.regWords", Rows.laid_loop_example_g00329_impl_regWords)] W) : TabK W := by
 rw [opD_eq, rgD_eq] at h
 exact ⟨strs_of_head gOp tOp Tryd.underlying92 Tryd.underlying9 (by kernel_rfl) (by kernel_rfl) h, strs_of_head gRg tRg Tryd.underlying93 Tryd.underlying9 (by kernel_rfl) (by kernel_rfl) h.tail⟩
theorem tab_of_laid {W : World} (h : laidMetH Tryd.prog [("loop.example/g00329/impl.opWords", Rows.laid_loop_example_g00329_impl_opWords), ("loop.example/g00329/impl.regWords", Rows.laid_loop_example_g00329_impl_regWords)] W) : TabK W := by
 rw [MakeChecks.laidMetH_plain _ _ _ (by kernel_rfl)] at h
 exact tabK_of h
end
section
structure Sub (B : Nat) (w0 : World) where
 w : World
 h : Below B w0 w
theorem Sub.ne (B : Nat) (w0 : World) : Nonempty (Sub B w0) := ⟨⟨w0, Below.refl _ _⟩⟩
section
variable {B : Nat} {w0 : World} {P : Program}
theorem Sub.call {f : FuncId} {args : Array Value} {x : Sub B w0} {v : Value} (hB : B ≤ w0.heap.size) (h : Calls P f args x.w fun e w' => e = .returned v ∧ Below x.w.heap.size x.w w') : Calls P f args x.w fun e w' => e = .returned v ∧ ∃ y : Sub B w0, w' = y.w :=
 h.mono fun e w' ⟨he, hb⟩ => ⟨he, ⟨w', x.h.trans (hb.mono (Nat.le_trans hB x.h.size))⟩, rfl⟩
theorem Sub.same {f : FuncId} {args : Array Value} {x : Sub B w0} {v : Value} (h : Calls P f args x.w fun e w' => e = .returned v ∧ w' = x.w) : Calls P f args x.w fun e w' => e = .returned v ∧ ∃ y : Sub B w0, w' = y.w :=
 h.mono fun e w' ⟨he, hb⟩ => ⟨he, x, hb⟩
theorem wp_region_sub {id : Nat} {Q : Exit → Act → World → Prop} {a : Act} (x : Sub B w0) {l : List Oper} (hm : P.follows .mixedOrders = true) (hB : Region.lexB .any l.toArray = true)
  (h : wpQuiet P l.toArray (fun w' => ∃ y : Sub B w0, w' = y.w) (fun a' => ∀ y : Sub B w0, Q .normal a' y.w) l a) : (Code.region id l.toArray true).wp P Q a x.w :=
 wp_region_quiet (C := fun w' => ∃ y : Sub B w0, w' = y.w) hm hB ⟨⟨_, x.h.drew⟩, rfl⟩ (by
  have e : (fun a' => ∀ w', (∃ y : Sub B w0, w' = y.w) → Q .normal a' w') = (fun a' => ∀ y : Sub B w0, Q .normal a' y.w) := by
   funext a'
   apply propext
   constructor
   · intro h y; exact h _ ⟨y, rfl⟩
   · rintro h _ ⟨y, rfl⟩; exact h y
  rw [e]
  simpa using h)
end
end
theorem results_row2 {P : Program} {fn : Func} {p u : Tmp} {ty : TypeId} (h : fn.results = #[.cell p ty, .tmp u]) (tmps : Array Value) (w : World) (g : Nat) (t : TypeId) (cs : Array Value) (fr : Nat × Nat) (d : TypeDesc)
  (hp : tmps.getD p undef = .pointer (some ⟨g, 0, none⟩)) (hg : w.heap[g]? = some (.cells cs t fr))
  (hu : P.underlying ty = some d) (hd : (match d with | .struct _ | .array _ _ => true | _ => false) = true) (hi : (P.info? ty).map (·.size) = some cs.size) :
  (results fn tmps).run P w = .ok (.tuple #[.agg cs, tmps.getD u undef]) w := by
 have hp' : tmps[p]?.getD undef = .pointer (some ⟨g, 0, none⟩) := by simpa using hp
 simp [results, h, hp', asAddr, run_loadVar_row w g t ty cs fr d hg hu hd hi]
theorem form_open {l : List UInt8} (h : formB l = true) : ∃ c r, l = c :: r ∧ smB (c.toNat : Int) = true ∧ (∀ x ∈ l, ldB (x.toNat : Int) = true) ∧ l.length ≤ 6 := by
 unfold formB at h
 rw [Bool.and_eq_true, inB_iff, List.all_eq_true] at h
 obtain ⟨h1, h2, h3⟩ := h
 match l, h2 with
 | c :: r, _ =>
  refine ⟨c, r, rfl, ?_, ?_, by omega⟩
  ·
   have := h1 0 (List.mem_range.2 (by simp))
   unfold okAt at this
   rw [show decide (0 < 0) = false from rfl, Bool.false_and, Bool.or_false] at this
   exact this
  ·
   intro x hx
   obtain ⟨i, hi, rfl⟩ := List.getElem_of_mem hx
   have := h1 i (List.mem_range.2 hi)
   unfold okAt bAt at this
   rw [List.getD_eq_getElem?_getD, List.getElem?_eq_getElem hi] at this
   simp only [Option.getD_some] at this
   unfold ldB
   rw [Bool.or_eq_true] at this ⊢
   rcases this with h | h
   · exact .inl h
   · rw [Bool.and_eq_true] at h; exact .inr h.2
structure Ex where
 k : Int
 n : Int
 s : ByteArray
 l : List Ex
theorem Ex.ind {p : Ex → Prop} (h : ∀ k n s l, (∀ e ∈ l, p e) → p ⟨k, n, s, l⟩) (e : Ex) : p e := by
 obtain ⟨k, n, s, l⟩ := e
 exact h k n s l (fun e he => Ex.ind h e)
def Ex.sz : Ex → Nat
 | ⟨_, _, s, l⟩ => s.size + l.length + (l.map Ex.sz).sum
theorem Ex.sz_eq (k n : Int) (s : ByteArray) (l : List Ex) : (Ex.mk k n s l).sz = s.size + l.length + (l.map Ex.sz).sum := by rw [Ex.sz]
def X0 : Ex := ⟨0, 0, ⟨#[]⟩, []⟩
def xAt (l : List Ex) (i : Nat) : Ex := l.getD i X0
def RdX (w : World) (B : Nat) : Ex → Option Addr → Prop
 | ⟨_, _, _, l⟩, a => l = [] ∨ ∃ b off, a = some ⟨b, off, none⟩ ∧ B ≤ b ∧ b < w.heap.size ∧ ∀ x ∈ l, ∀ i, l[i]? = some x → w.cell? ⟨b, off + i * 4, none⟩ = some (.int .i64 x.k) ∧ w.cell? ⟨b, off + i * 4 + 1, none⟩ = some (.int .i64 x.n) ∧ w.cell? ⟨b, off + i * 4 + 2, none⟩ = some (.string x.s) ∧ ∃ c cap, w.cell? ⟨b, off + i * 4 + 3, none⟩ = some (.slice c x.l.length cap) ∧ RdX w B x c
def OneX (w : World) (B b at_ : Nat) (x : Ex) : Prop := w.cell? ⟨b, at_, none⟩ = some (.int .i64 x.k) ∧ w.cell? ⟨b, at_ + 1, none⟩ = some (.int .i64 x.n) ∧ w.cell? ⟨b, at_ + 2, none⟩ = some (.string x.s) ∧ ∃ c cap, w.cell? ⟨b, at_ + 3, none⟩ = some (.slice c x.l.length cap) ∧ RdX w B x c
theorem xAt_get {l : List Ex} {i : Nat} (h : i < l.length) : xAt l i = l[i] := by
 unfold xAt
 rw [List.getD_eq_getElem?_getD, List.getElem?_eq_getElem h]
 rfl
theorem xAt_mem {l : List Ex} {i : Nat} (h : i < l.length) : xAt l i ∈ l := by rw [xAt_get h]; exact List.getElem_mem _
theorem RdX_eq (w : World) (B : Nat) (e : Ex) (a : Option Addr) : RdX w B e a ↔ (e.l = [] ∨ ∃ b off, a = some ⟨b, off, none⟩ ∧ B ≤ b ∧ b < w.heap.size ∧ ∀ i, i < e.l.length → OneX w B b (off + i * 4) (xAt e.l i)) := by
 obtain ⟨k, n, s, l⟩ := e
 rw [RdX]
 refine or_congr Iff.rfl (exists_congr fun b => exists_congr fun off => and_congr Iff.rfl (and_congr Iff.rfl (and_congr Iff.rfl ⟨fun h i hi => ?_, fun h x hx i hi => ?_⟩)))
 · exact h _ (xAt_mem hi) i (by rw [xAt_get hi]; exact List.getElem?_eq_getElem hi)
 ·
  obtain ⟨hl, e⟩ := List.getElem?_eq_some_iff.1 hi
  have := h i hl
  rw [xAt_get hl, e] at this
  exact this
theorem RdX.keep {w w' : World} {B : Nat} (hs : w.heap.size ≤ w'.heap.size) (hc : ∀ b o v, B ≤ b → b < w.heap.size → w.cell? ⟨b, o, none⟩ = some v → w'.cell? ⟨b, o, none⟩ = some v) (e : Ex) : ∀ a, RdX w B e a → RdX w' B e a := by
 induction e using Ex.ind with
 | h k n s l ih =>
  intro a h
  rw [RdX_eq] at h ⊢
  rcases h with h | ⟨b, off, ha, h1, h2, h3⟩
  · exact .inl h
  ·
   refine .inr ⟨b, off, ha, h1, Nat.lt_of_lt_of_le h2 hs, fun i hi => ?_⟩
   obtain ⟨c1, c2, c3, c, cap, c4, c5⟩ := h3 i hi
   exact ⟨hc _ _ _ h1 h2 c1, hc _ _ _ h1 h2 c2, hc _ _ _ h1 h2 c3, c, cap, hc _ _ _ h1 h2 c4, ih _ (xAt_mem hi) _ c5⟩
theorem RdX.later {w w' : World} {B : Nat} {e : Ex} {a : Option Addr} (h : RdX w B e a) (hb : Below w.heap.size w w') : RdX w' B e a :=
 RdX.keep hb.size (fun b o v _ hlt hc => (hb.cell (p := ⟨b, o, none⟩) hlt).trans hc) e a h
theorem RdX.lower {w : World} {B C : Nat} (hC : C ≤ B) (e : Ex) : ∀ a, RdX w B e a → RdX w C e a := by
 induction e using Ex.ind with
 | h k n s l ih =>
  intro a h
  rw [RdX_eq] at h ⊢
  rcases h with h | ⟨b, off, ha, h1, h2, h3⟩
  · exact .inl h
  ·
   refine .inr ⟨b, off, ha, Nat.le_trans hC h1, h2, fun i hi => ?_⟩
   obtain ⟨c1, c2, c3, c, cap, c4, c5⟩ := h3 i hi
   exact ⟨c1, c2, c3, c, cap, c4, ih _ (xAt_mem hi) _ c5⟩
def szX (l : List Ex) : Nat := (l.map Ex.sz).sum
theorem szX_take (l : List Ex) (k : Nat) (h : k < l.length) : szX (l.take (k + 1)) = szX (l.take k) + (xAt l k).sz := by
 unfold szX
 rw [List.take_succ_eq_append_getElem h, List.map_append, List.sum_append, xAt_get h]
 simp
theorem szX_le (l : List Ex) (k : Nat) : szX (l.take k) ≤ szX l := by
 induction l generalizing k with
 | nil => simp [szX]
 | cons a r ih =>
  cases k with
  | zero => simp [szX]
  | succ k =>
   have := ih k
   unfold szX at this ⊢
   simp only [List.take_succ_cons, List.map_cons, List.sum_cons]
   omega
theorem sz_is (e : Ex) : e.sz = e.s.size + e.l.length + szX e.l := by obtain ⟨k, n, s, l⟩ := e; exact Ex.sz_eq k n s l
def Fit : Ex → Prop
 | ⟨_, _, s, l⟩ => s.size ≤ 9223372036854775807 ∧ l.length ≤ 9223372036854775807 ∧ ∀ x ∈ l, Fit x
theorem Fit_eq (e : Ex) : Fit e ↔ (e.s.size ≤ 9223372036854775807 ∧ e.l.length ≤ 9223372036854775807 ∧ ∀ i, i < e.l.length → Fit (xAt e.l i)) := by
 obtain ⟨k, n, s, l⟩ := e
 rw [Fit]
 refine and_congr Iff.rfl (and_congr Iff.rfl ⟨fun h i hi => h _ (xAt_mem hi), fun h x hx => ?_⟩)
 obtain ⟨i, hi, rfl⟩ := List.getElem_of_mem hx
 have := h i hi
 rw [xAt_get hi] at this
 exact this
def Ex.here (e : Ex) : Bool :=
 if ((e.k != 1 && (e.k != 11 && e.n != 0)) || (e.k != 2 && (e.k != 12 && !eqS e.s E0))) = true then false
 else if e.k = 1 then inB e.n 0 65535 && e.l.length == 0
 else if e.k = 2 ∨ e.k = 12 then nameB e.s && e.l.length == 0
 else if e.k = 3 then e.l.length == 0
 else if e.k = 4 then e.l.length == 1
 else if 5 ≤ e.k ∧ e.k ≤ 10 then e.l.length == 2
 else if e.k = 11 then inB e.n 0 9 && e.l.length == 0
 else false
def okF : Nat → Bool → Ex → Bool
 | 0, _, _ => false
 | d + 1, p, e => e.here && (!(p && (e.k == 11 || e.k == 12)) && e.l.all (okF d p))
section
def Ex.cs (e : Ex) (b : Option Addr) (cap : Nat) : Array Value := #[.int .i64 e.k, .int .i64 e.n, .string e.s, .slice b e.l.length cap]
section
variable {H : Type} {enc : TypeId × Value → H} {W : World} {b0 base : Nat} {spare : TypeId → Bool} {held : Bool}
theorem trod_four {P : Program} {t : TypeId} {f0 f1 f2 f3 : Field} {fuel : Nat} {cs : List Value} {x : DataW H × List MemPlace} (ht : P.underlying t = some (.struct #[f0, f1, f2, f3])) (h : DataW.trod enc P W base spare held fuel t cs = some x) :
  ∃ y0 y1 y2 y3 n, fuel = n + 1 ∧ cs.length = P.cellsOf t ∧ DataW.trod enc P W base spare held n f0.type ((cs.drop f0.offset).take (P.cellsOf f0.type)) = some y0 ∧ DataW.trod enc P W base spare held n f1.type ((cs.drop f1.offset).take (P.cellsOf f1.type)) = some y1 ∧ DataW.trod enc P W base spare held n f2.type ((cs.drop f2.offset).take (P.cellsOf f2.type)) = some y2 ∧ DataW.trod enc P W base spare held n f3.type ((cs.drop f3.offset).take (P.cellsOf f3.type)) = some y3 := by
 obtain ⟨xs, n, hf, rfl, hl, hlen, hfs⟩ := DataW.trod_struct ht h
 match xs, hlen with
 | [y0, y1, y2, y3], _ => exact ⟨y0, y1, y2, y3, n, hf, hl, by simpa using hfs 0 f0 rfl, by simpa using hfs 1 f1 rfl, by simpa using hfs 2 f2 rfl, by simpa using hfs 3 f3 rfl⟩
theorem trod_ex : ∀ (fuel : Nat) (cs : List Value) (x : DataW H × List MemPlace), DataW.trod enc Tryd.prog W base spare held fuel 57 cs = some x → ∃ (e : Ex) (b : Option Addr) (cap : Nat), cs = [.int .i64 e.k, .int .i64 e.n, .string e.s, .slice b e.l.length cap] ∧ RdX W 0 e b ∧ Fit e := by
 intro fuel
 induction fuel using Nat.strongRecOn with
 | ind fuel ih =>
  intro cs x h
  obtain ⟨y0, y1, y2, y3, n, hf, hl, h0, h1, h2, h3⟩ := trod_four Tryd.underlying57 h
  have hc : Tryd.prog.cellsOf 57 = 4 := by kernel_rfl
  have hc3 : Tryd.prog.cellsOf 3 = 1 := by kernel_rfl
  have hc9 : Tryd.prog.cellsOf 9 = 1 := by kernel_rfl
  have hcl : Tryd.prog.cellsOf 52 = 1 := by kernel_rfl
  rw [hc] at hl
  match cs, hl with
  | [c0, c1, c2, c3], _ =>
   obtain ⟨m, e0, _, w0⟩ := DataW.trod_int Tryd.underlying3 h0
   obtain ⟨r, e1, _, w1⟩ := DataW.trod_int Tryd.underlying3 h1
   obtain ⟨s, e2, _, w2⟩ := DataW.trod_string Tryd.underlying9 h2
   simp only [hc3, hc9] at e0 e1 e2
   simp at e0 e1 e2
   subst e0 e1 e2
   have hs9 : s.size ≤ 9223372036854775807 := by have := w2; unfold maxLen at this; omega
   rcases DataW.trod_slice Tryd.underlying52 h3 with ⟨hcs, _⟩ | ⟨a, len, cap, elems, rest, q, hq, hcs, _, hb, hl, hm, hel, hx, _, _⟩
   ·
    simp only [hcl] at hcs
    simp at hcs
    subst hcs
    exact ⟨⟨m, r, s, []⟩, none, 0, rfl, (RdX_eq _ _ _ _).2 (.inl rfl), (Fit_eq _).2 ⟨hs9, by simp, fun i hi => by simp at hi⟩⟩
   ·
    simp only [hcl] at hcs
    simp at hcs
    subst hcs
    have each : ∀ i, i < len → ∃ t : Ex, (W.cell? (a.add (i * 4)) = some (.int .i64 t.k) ∧ W.cell? (a.add (i * 4 + 1)) = some (.int .i64 t.n) ∧ W.cell? (a.add (i * 4 + 2)) = some (.string t.s) ∧ ∃ c cap, W.cell? (a.add (i * 4 + 3)) = some (.slice c t.l.length cap) ∧ RdX W 0 t c) ∧ Fit t := fun i hi => by
     have h4 := hx i hi
     rw [List.getElem?_eq_getElem (by omega), Option.bind_eq_some_iff] at h4
     obtain ⟨cs', p1, p2⟩ := h4
     rw [hc] at p1
     obtain ⟨_, hlen', hcell⟩ := World.cells?_some p1
     obtain ⟨t, c, cap', hcs', hrd, hft⟩ := ih q (by omega) cs' _ p2
     refine ⟨t, ⟨?_, ?_, ?_, c, cap', ?_, hrd⟩, hft⟩
     · have e := hcell 0 (by omega); rw [_root_.Go.Deep.add_add, hcs'] at e; simpa using e
     · have e := hcell 1 (by omega); rw [_root_.Go.Deep.add_add, hcs'] at e; simpa using e
     · have e := hcell 2 (by omega); rw [_root_.Go.Deep.add_add, hcs'] at e; simpa using e
     · have e := hcell 3 (by omega); rw [_root_.Go.Deep.add_add, hcs'] at e; simpa using e
    obtain ⟨T, hT⟩ := @_root_.Go.Deep.choose_lt Ex ⟨X0⟩ _ _ each
    have hL : ((List.range len).map T).length = len := by simp
    have hat : ∀ i, i < len → xAt ((List.range len).map T) i = T i := fun i hi => by
     unfold xAt
     rw [List.getD_eq_getElem?_getD, List.getElem?_map, List.getElem?_range hi]
     rfl
    refine ⟨⟨m, r, s, (List.range len).map T⟩, some a, cap, by simp [hL], (RdX_eq _ _ _ _).2 ?_, (Fit_eq _).2 ⟨hs9, ?_, fun i hi => ?_⟩⟩
    ·
     by_cases h0 : len = 0
     · subst h0; exact .inl rfl
     ·
      right
      obtain ⟨b, off, spot⟩ := a
      have h00 := (hT 0 (by omega)).1.1
      have hspot : spot = none := by simpa [Addr.add] using World.cell?_spot h00
      subst hspot
      have hadd : ∀ j, (⟨b, off, none⟩ : Addr).add j = ⟨b, off + j, none⟩ := fun j => by
       unfold Addr.add
       by_cases hj : j = 0
       · subst hj; simp
       · simp [hj]
      refine ⟨b, off, rfl, Nat.zero_le _, World.block_lt_of_cell? W _ h00, fun i hi => ?_⟩
      have hi : i < len := by simpa using hi
      show OneX W 0 b (off + i * 4) (xAt ((List.range len).map T) i)
      rw [hat i hi]
      have h3 := (hT i hi).1
      rw [hadd, hadd, hadd, hadd] at h3
      exact h3
    ·
     show ((List.range len).map T).length ≤ _
     rw [hL]; unfold maxLen at hm; omega
    ·
     have hi : i < len := by simpa using hi
     show Fit (xAt ((List.range len).map T) i)
     rw [hat i hi]
     exact (hT i hi).2
end
end
set_option linter.unusedSimpArgs false
def hereV (k n : Int) (s : ByteArray) (ll : Nat) : Bool := Ex.here ⟨k, n, s, List.replicate ll X0⟩
theorem here_is (e : Ex) : e.here = hereV e.k e.n e.s e.l.length := by
 unfold hereV Ex.here
 simp only [List.length_replicate]
theorem emp_E (s : ByteArray) (h : s ≠ E0) : s.toList.isEmpty = false ∧ eqS s E0 = false := by
 refine ⟨emp_no s (fun e => h (empty_of s e)), ?_⟩
 cases he : eqS s E0 with
 | false => rfl
 | true => exact absurd ((eqS_iff _ _).1 he) h
theorem eqE : eqS E0 E0 = true := (eqS_iff _ _).2 rfl
theorem eqE1 : eqS ⟨#[]⟩ E0 = true := eqE
def HereG (k n : Int) (s : ByteArray) (ll : Nat) : Prop := ∀ (b : Option Addr) (cap : Nat) (w : World), Calls Tryd.prog 54 #[.agg #[.int .i64 k, .int .i64 n, .string s, .slice b ll cap]] w fun r w' => r = .returned (.bool (hereV k n s ll)) ∧ Below w.heap.size w w'
theorem here1_s (n : Int) (s : ByteArray) (ll : Nat) (h : s ≠ E0) (hs : s.size ≤ 1099511627776) (hl : ll ≤ 9223372036854775807) : HereG (1) n s ll := by
 intro b cap w
 have B0 := hide (below_new w (.cells #[.int .i64 1, .int .i64 n, .string s, .slice b ll cap] 43))
 obtain ⟨h1, h2⟩ := emp_E s h
 have V : hereV (1) n s ll = false := by simp [hereV, Ex.here, eqE, eqE1, *]
 rw [V]
 clear V
 go_enter Tryd.func54, Tryd.ntmps54
 go_wp2
 go_ret
 exact ⟨rfl, uh B0⟩
theorem here1_0 (n : Int) (s : ByteArray) (ll : Nat) (hs : s.size ≤ 1099511627776) (hl : ll ≤ 9223372036854775807) : HereG (1) n ⟨#[]⟩ ll := by
 intro b cap w
 have B0 := hide (below_new w (.cells #[.int .i64 1, .int .i64 n, .string ⟨#[]⟩, .slice b ll cap] 43))
 have V : hereV (1) n ⟨#[]⟩ ll = (inB n 0 65535 && ll == 0) := by simp [hereV, Ex.here, eqE, eqE1, *]
 rw [V]
 clear V
 have Q := hide (fun w => in_any n 0 65535 w)
 generalize inB n 0 65535 = q at *
 by_cases h0 : ll = 0
 ·
  subst h0
  cases q <;> (go_enter Tryd.func54, Tryd.ntmps54; go_wp2_with (go_at_call 39; refine (uh Q _).mono ?_; rintro e w' ⟨rfl, hw'⟩; rw [hw']; clear hw' w'); go_ret; exact ⟨rfl, uh B0⟩)
 ·
  have h1 : (ll == 0) = false := beq_eq_false_iff_ne.2 h0
  have h2 : ((ll : Int) == 0) = false := beq_eq_false_iff_ne.2 (by omega)
  rw [h1]
  clear h1 h0
  cases q <;> (go_enter Tryd.func54, Tryd.ntmps54; go_wp2_with (go_at_call 39; refine (uh Q _).mono ?_; rintro e w' ⟨rfl, hw'⟩; rw [hw']; clear hw' w'); go_ret; exact ⟨rfl, uh B0⟩)
theorem here11_s (n : Int) (s : ByteArray) (ll : Nat) (h : s ≠ E0) (hs : s.size ≤ 1099511627776) (hl : ll ≤ 9223372036854775807) : HereG (11) n s ll := by
 intro b cap w
 have B0 := hide (below_new w (.cells #[.int .i64 11, .int .i64 n, .string s, .slice b ll cap] 43))
 obtain ⟨h1, h2⟩ := emp_E s h
 have V : hereV (11) n s ll = false := by simp [hereV, Ex.here, eqE, eqE1, *]
 rw [V]
 clear V
 go_enter Tryd.func54, Tryd.ntmps54
 go_wp2
 go_ret
 exact ⟨rfl, uh B0⟩
theorem here11_0 (n : Int) (s : ByteArray) (ll : Nat) (hs : s.size ≤ 1099511627776) (hl : ll ≤ 9223372036854775807) : HereG (11) n ⟨#[]⟩ ll := by
 intro b cap w
 have B0 := hide (below_new w (.cells #[.int .i64 11, .int .i64 n, .string ⟨#[]⟩, .slice b ll cap] 43))
 have V : hereV (11) n ⟨#[]⟩ ll = (inB n 0 9 && ll == 0) := by simp [hereV, Ex.here, eqE, eqE1, *]
 rw [V]
 clear V
 have Q := hide (fun w => in_any n 0 9 w)
 generalize inB n 0 9 = q at *
 by_cases h0 : ll = 0
 ·
  subst h0
  cases q <;> (go_enter Tryd.func54, Tryd.ntmps54; go_wp2_with (go_at_call 39; refine (uh Q _).mono ?_; rintro e w' ⟨rfl, hw'⟩; rw [hw']; clear hw' w'); go_ret; exact ⟨rfl, uh B0⟩)
 ·
  have h1 : (ll == 0) = false := beq_eq_false_iff_ne.2 h0
  have h2 : ((ll : Int) == 0) = false := beq_eq_false_iff_ne.2 (by omega)
  rw [h1]
  clear h1 h0
  cases q <;> (go_enter Tryd.func54, Tryd.ntmps54; go_wp2_with (go_at_call 39; refine (uh Q _).mono ?_; rintro e w' ⟨rfl, hw'⟩; rw [hw']; clear hw' w'); go_ret; exact ⟨rfl, uh B0⟩)
theorem here2_n (n : Int) (s : ByteArray) (ll : Nat) (h : n ≠ 0) (hs : s.size ≤ 1099511627776) (hl : ll ≤ 9223372036854775807) : HereG (2) n s ll := by
 intro b cap w
 have B0 := hide (below_new w (.cells #[.int .i64 2, .int .i64 n, .string s, .slice b ll cap] 43))
 have V : hereV (2) n s ll = false := by simp [hereV, Ex.here, eqE, eqE1, *]
 rw [V]
 clear V
 go_enter Tryd.func54, Tryd.ntmps54
 go_wp2
 go_ret
 exact ⟨rfl, uh B0⟩
theorem here2_0 (n : Int) (s : ByteArray) (ll : Nat) (hs : s.size ≤ 1099511627776) (hl : ll ≤ 9223372036854775807) : HereG (2) 0 s ll := by
 intro b cap w
 have B0 := hide (below_new w (.cells #[.int .i64 2, .int .i64 0, .string s, .slice b ll cap] 43))
 have V : hereV (2) 0 s ll = (nameB s && ll == 0) := by simp [hereV, Ex.here, eqE, eqE1, *]
 rw [V]
 clear V
 have Q := hide (nameS_any s (w.alloc (.cells #[.int .i64 2, .int .i64 0, .string s, .slice b ll cap] 43)) hs)
 generalize nameB s = q at *
 by_cases h0 : ll = 0
 ·
  subst h0
  cases q <;> (go_enter Tryd.func54, Tryd.ntmps54; go_wp2_with (go_at_call 11; refine (uh Q).mono ?_; rintro e w' ⟨rfl, hb⟩); go_ret; exact ⟨rfl, (uh B0).trans (hb.mono (uh B0).size)⟩)
 ·
  have h1 : (ll == 0) = false := beq_eq_false_iff_ne.2 h0
  have h2 : ((ll : Int) == 0) = false := beq_eq_false_iff_ne.2 (by omega)
  rw [h1]
  clear h1 h0
  cases q <;> (go_enter Tryd.func54, Tryd.ntmps54; go_wp2_with (go_at_call 11; refine (uh Q).mono ?_; rintro e w' ⟨rfl, hb⟩); go_ret; exact ⟨rfl, (uh B0).trans (hb.mono (uh B0).size)⟩)
theorem here12_n (n : Int) (s : ByteArray) (ll : Nat) (h : n ≠ 0) (hs : s.size ≤ 1099511627776) (hl : ll ≤ 9223372036854775807) : HereG (12) n s ll := by
 intro b cap w
 have B0 := hide (below_new w (.cells #[.int .i64 12, .int .i64 n, .string s, .slice b ll cap] 43))
 have V : hereV (12) n s ll = false := by simp [hereV, Ex.here, eqE, eqE1, *]
 rw [V]
 clear V
 go_enter Tryd.func54, Tryd.ntmps54
 go_wp2
 go_ret
 exact ⟨rfl, uh B0⟩
theorem here12_0 (n : Int) (s : ByteArray) (ll : Nat) (hs : s.size ≤ 1099511627776) (hl : ll ≤ 9223372036854775807) : HereG (12) 0 s ll := by
 intro b cap w
 have B0 := hide (below_new w (.cells #[.int .i64 12, .int .i64 0, .string s, .slice b ll cap] 43))
 have V : hereV (12) 0 s ll = (nameB s && ll == 0) := by simp [hereV, Ex.here, eqE, eqE1, *]
 rw [V]
 clear V
 have Q := hide (nameS_any s (w.alloc (.cells #[.int .i64 12, .int .i64 0, .string s, .slice b ll cap] 43)) hs)
 generalize nameB s = q at *
 by_cases h0 : ll = 0
 ·
  subst h0
  cases q <;> (go_enter Tryd.func54, Tryd.ntmps54; go_wp2_with (go_at_call 11; refine (uh Q).mono ?_; rintro e w' ⟨rfl, hb⟩); go_ret; exact ⟨rfl, (uh B0).trans (hb.mono (uh B0).size)⟩)
 ·
  have h1 : (ll == 0) = false := beq_eq_false_iff_ne.2 h0
  have h2 : ((ll : Int) == 0) = false := beq_eq_false_iff_ne.2 (by omega)
  rw [h1]
  clear h1 h0
  cases q <;> (go_enter Tryd.func54, Tryd.ntmps54; go_wp2_with (go_at_call 11; refine (uh Q).mono ?_; rintro e w' ⟨rfl, hb⟩); go_ret; exact ⟨rfl, (uh B0).trans (hb.mono (uh B0).size)⟩)
theorem here3_n (n : Int) (s : ByteArray) (ll : Nat) (h : n ≠ 0) (hs : s.size ≤ 1099511627776) (hl : ll ≤ 9223372036854775807) : HereG (3) n s ll := by
 intro b cap w
 have B0 := hide (below_new w (.cells #[.int .i64 3, .int .i64 n, .string s, .slice b ll cap] 43))
 have V : hereV (3) n s ll = false := by simp [hereV, Ex.here, eqE, eqE1, *]
 rw [V]
 clear V
 go_enter Tryd.func54, Tryd.ntmps54
 go_wp2
 go_ret
 exact ⟨rfl, uh B0⟩
theorem here3_s (n : Int) (s : ByteArray) (ll : Nat) (h : s ≠ E0) (hs : s.size ≤ 1099511627776) (hl : ll ≤ 9223372036854775807) : HereG (3) 0 s ll := by
 intro b cap w
 have B0 := hide (below_new w (.cells #[.int .i64 3, .int .i64 0, .string s, .slice b ll cap] 43))
 obtain ⟨h1, h2⟩ := emp_E s h
 have V : hereV (3) 0 s ll = false := by simp [hereV, Ex.here, eqE, eqE1, *]
 rw [V]
 clear V
 go_enter Tryd.func54, Tryd.ntmps54
 go_wp2
 go_ret
 exact ⟨rfl, uh B0⟩
theorem here3_0 (n : Int) (s : ByteArray) (ll : Nat) (hs : s.size ≤ 1099511627776) (hl : ll ≤ 9223372036854775807) : HereG (3) 0 ⟨#[]⟩ ll := by
 intro b cap w
 have B0 := hide (below_new w (.cells #[.int .i64 3, .int .i64 0, .string ⟨#[]⟩, .slice b ll cap] 43))
 have V : hereV (3) 0 ⟨#[]⟩ ll = (ll == 0) := by simp [hereV, Ex.here, eqE, eqE1, *]
 rw [V]
 clear V
 by_cases h0 : ll = 0
 ·
  subst h0
  go_enter Tryd.func54, Tryd.ntmps54
  go_wp2
  go_ret
  exact ⟨rfl, uh B0⟩
 ·
  have h1 : (ll == 0) = false := beq_eq_false_iff_ne.2 h0
  have h2 : ((ll : Int) == 0) = false := beq_eq_false_iff_ne.2 (by omega)
  rw [h1]
  clear h1 h0
  go_enter Tryd.func54, Tryd.ntmps54
  go_wp2
  go_ret
  exact ⟨rfl, uh B0⟩
theorem here4_n (n : Int) (s : ByteArray) (ll : Nat) (h : n ≠ 0) (hs : s.size ≤ 1099511627776) (hl : ll ≤ 9223372036854775807) : HereG (4) n s ll := by
 intro b cap w
 have B0 := hide (below_new w (.cells #[.int .i64 4, .int .i64 n, .string s, .slice b ll cap] 43))
 have V : hereV (4) n s ll = false := by simp [hereV, Ex.here, eqE, eqE1, *]
 rw [V]
 clear V
 go_enter Tryd.func54, Tryd.ntmps54
 go_wp2
 go_ret
 exact ⟨rfl, uh B0⟩
theorem here4_s (n : Int) (s : ByteArray) (ll : Nat) (h : s ≠ E0) (hs : s.size ≤ 1099511627776) (hl : ll ≤ 9223372036854775807) : HereG (4) 0 s ll := by
 intro b cap w
 have B0 := hide (below_new w (.cells #[.int .i64 4, .int .i64 0, .string s, .slice b ll cap] 43))
 obtain ⟨h1, h2⟩ := emp_E s h
 have V : hereV (4) 0 s ll = false := by simp [hereV, Ex.here, eqE, eqE1, *]
 rw [V]
 clear V
 go_enter Tryd.func54, Tryd.ntmps54
 go_wp2
 go_ret
 exact ⟨rfl, uh B0⟩
theorem here4_0 (n : Int) (s : ByteArray) (ll : Nat) (hs : s.size ≤ 1099511627776) (hl : ll ≤ 9223372036854775807) : HereG (4) 0 ⟨#[]⟩ ll := by
 intro b cap w
 have B0 := hide (below_new w (.cells #[.int .i64 4, .int .i64 0, .string ⟨#[]⟩, .slice b ll cap] 43))
 have V : hereV (4) 0 ⟨#[]⟩ ll = (ll == 1) := by simp [hereV, Ex.here, eqE, eqE1, *]
 rw [V]
 clear V
 by_cases h0 : ll = 1
 ·
  subst h0
  go_enter Tryd.func54, Tryd.ntmps54
  go_wp2
  go_ret
  exact ⟨rfl, uh B0⟩
 ·
  have h1 : (ll == 1) = false := beq_eq_false_iff_ne.2 h0
  have h2 : ((ll : Int) == 1) = false := beq_eq_false_iff_ne.2 (by omega)
  rw [h1]
  clear h1 h0
  go_enter Tryd.func54, Tryd.ntmps54
  go_wp2
  go_ret
  exact ⟨rfl, uh B0⟩
theorem here5_n (n : Int) (s : ByteArray) (ll : Nat) (h : n ≠ 0) (hs : s.size ≤ 1099511627776) (hl : ll ≤ 9223372036854775807) : HereG (5) n s ll := by
 intro b cap w
 have B0 := hide (below_new w (.cells #[.int .i64 5, .int .i64 n, .string s, .slice b ll cap] 43))
 have V : hereV (5) n s ll = false := by simp [hereV, Ex.here, eqE, eqE1, *]
 rw [V]
 clear V
 go_enter Tryd.func54, Tryd.ntmps54
 go_wp2
 go_ret
 exact ⟨rfl, uh B0⟩
theorem here5_s (n : Int) (s : ByteArray) (ll : Nat) (h : s ≠ E0) (hs : s.size ≤ 1099511627776) (hl : ll ≤ 9223372036854775807) : HereG (5) 0 s ll := by
 intro b cap w
 have B0 := hide (below_new w (.cells #[.int .i64 5, .int .i64 0, .string s, .slice b ll cap] 43))
 obtain ⟨h1, h2⟩ := emp_E s h
 have V : hereV (5) 0 s ll = false := by simp [hereV, Ex.here, eqE, eqE1, *]
 rw [V]
 clear V
 go_enter Tryd.func54, Tryd.ntmps54
 go_wp2
 go_ret
 exact ⟨rfl, uh B0⟩
theorem here5_0 (n : Int) (s : ByteArray) (ll : Nat) (hs : s.size ≤ 1099511627776) (hl : ll ≤ 9223372036854775807) : HereG (5) 0 ⟨#[]⟩ ll := by
 intro b cap w
 have B0 := hide (below_new w (.cells #[.int .i64 5, .int .i64 0, .string ⟨#[]⟩, .slice b ll cap] 43))
 have V : hereV (5) 0 ⟨#[]⟩ ll = (ll == 2) := by simp [hereV, Ex.here, eqE, eqE1, *]
 rw [V]
 clear V
 by_cases h0 : ll = 2
 ·
  subst h0
  go_enter Tryd.func54, Tryd.ntmps54
  go_wp2
  go_ret
  exact ⟨rfl, uh B0⟩
 ·
  have h1 : (ll == 2) = false := beq_eq_false_iff_ne.2 h0
  have h2 : ((ll : Int) == 2) = false := beq_eq_false_iff_ne.2 (by omega)
  rw [h1]
  clear h1 h0
  go_enter Tryd.func54, Tryd.ntmps54
  go_wp2
  go_ret
  exact ⟨rfl, uh B0⟩
theorem here6_n (n : Int) (s : ByteArray) (ll : Nat) (h : n ≠ 0) (hs : s.size ≤ 1099511627776) (hl : ll ≤ 9223372036854775807) : HereG (6) n s ll := by
 intro b cap w
 have B0 := hide (below_new w (.cells #[.int .i64 6, .int .i64 n, .string s, .slice b ll cap] 43))
 have V : hereV (6) n s ll = false := by simp [hereV, Ex.here, eqE, eqE1, *]
 rw [V]
 clear V
 go_enter Tryd.func54, Tryd.ntmps54
 go_wp2
 go_ret
 exact ⟨rfl, uh B0⟩
theorem here6_s (n : Int) (s : ByteArray) (ll : Nat) (h : s ≠ E0) (hs : s.size ≤ 1099511627776) (hl : ll ≤ 9223372036854775807) : HereG (6) 0 s ll := by
 intro b cap w
 have B0 := hide (below_new w (.cells #[.int .i64 6, .int .i64 0, .string s, .slice b ll cap] 43))
 obtain ⟨h1, h2⟩ := emp_E s h
 have V : hereV (6) 0 s ll = false := by simp [hereV, Ex.here, eqE, eqE1, *]
 rw [V]
 clear V
 go_enter Tryd.func54, Tryd.ntmps54
 go_wp2
 go_ret
 exact ⟨rfl, uh B0⟩
theorem here6_0 (n : Int) (s : ByteArray) (ll : Nat) (hs : s.size ≤ 1099511627776) (hl : ll ≤ 9223372036854775807) : HereG (6) 0 ⟨#[]⟩ ll := by
 intro b cap w
 have B0 := hide (below_new w (.cells #[.int .i64 6, .int .i64 0, .string ⟨#[]⟩, .slice b ll cap] 43))
 have V : hereV (6) 0 ⟨#[]⟩ ll = (ll == 2) := by simp [hereV, Ex.here, eqE, eqE1, *]
 rw [V]
 clear V
 by_cases h0 : ll = 2
 ·
  subst h0
  go_enter Tryd.func54, Tryd.ntmps54
  go_wp2
  go_ret
  exact ⟨rfl, uh B0⟩
 ·
  have h1 : (ll == 2) = false := beq_eq_false_iff_ne.2 h0
  have h2 : ((ll : Int) == 2) = false := beq_eq_false_iff_ne.2 (by omega)
  rw [h1]
  clear h1 h0
  go_enter Tryd.func54, Tryd.ntmps54
  go_wp2
  go_ret
  exact ⟨rfl, uh B0⟩
theorem here7_n (n : Int) (s : ByteArray) (ll : Nat) (h : n ≠ 0) (hs : s.size ≤ 1099511627776) (hl : ll ≤ 9223372036854775807) : HereG (7) n s ll := by
 intro b cap w
 have B0 := hide (below_new w (.cells #[.int .i64 7, .int .i64 n, .string s, .slice b ll cap] 43))
 have V : hereV (7) n s ll = false := by simp [hereV, Ex.here, eqE, eqE1, *]
 rw [V]
 clear V
 go_enter Tryd.func54, Tryd.ntmps54
 go_wp2
 go_ret
 exact ⟨rfl, uh B0⟩
theorem here7_s (n : Int) (s : ByteArray) (ll : Nat) (h : s ≠ E0) (hs : s.size ≤ 1099511627776) (hl : ll ≤ 9223372036854775807) : HereG (7) 0 s ll := by
 intro b cap w
 have B0 := hide (below_new w (.cells #[.int .i64 7, .int .i64 0, .string s, .slice b ll cap] 43))
 obtain ⟨h1, h2⟩ := emp_E s h
 have V : hereV (7) 0 s ll = false := by simp [hereV, Ex.here, eqE, eqE1, *]
 rw [V]
 clear V
 go_enter Tryd.func54, Tryd.ntmps54
 go_wp2
 go_ret
 exact ⟨rfl, uh B0⟩
theorem here7_0 (n : Int) (s : ByteArray) (ll : Nat) (hs : s.size ≤ 1099511627776) (hl : ll ≤ 9223372036854775807) : HereG (7) 0 ⟨#[]⟩ ll := by
 intro b cap w
 have B0 := hide (below_new w (.cells #[.int .i64 7, .int .i64 0, .string ⟨#[]⟩, .slice b ll cap] 43))
 have V : hereV (7) 0 ⟨#[]⟩ ll = (ll == 2) := by simp [hereV, Ex.here, eqE, eqE1, *]
 rw [V]
 clear V
 by_cases h0 : ll = 2
 ·
  subst h0
  go_enter Tryd.func54, Tryd.ntmps54
  go_wp2
  go_ret
  exact ⟨rfl, uh B0⟩
 ·
  have h1 : (ll == 2) = false := beq_eq_false_iff_ne.2 h0
  have h2 : ((ll : Int) == 2) = false := beq_eq_false_iff_ne.2 (by omega)
  rw [h1]
  clear h1 h0
  go_enter Tryd.func54, Tryd.ntmps54
  go_wp2
  go_ret
  exact ⟨rfl, uh B0⟩
theorem here8_n (n : Int) (s : ByteArray) (ll : Nat) (h : n ≠ 0) (hs : s.size ≤ 1099511627776) (hl : ll ≤ 9223372036854775807) : HereG (8) n s ll := by
 intro b cap w
 have B0 := hide (below_new w (.cells #[.int .i64 8, .int .i64 n, .string s, .slice b ll cap] 43))
 have V : hereV (8) n s ll = false := by simp [hereV, Ex.here, eqE, eqE1, *]
 rw [V]
 clear V
 go_enter Tryd.func54, Tryd.ntmps54
 go_wp2
 go_ret
 exact ⟨rfl, uh B0⟩
theorem here8_s (n : Int) (s : ByteArray) (ll : Nat) (h : s ≠ E0) (hs : s.size ≤ 1099511627776) (hl : ll ≤ 9223372036854775807) : HereG (8) 0 s ll := by
 intro b cap w
 have B0 := hide (below_new w (.cells #[.int .i64 8, .int .i64 0, .string s, .slice b ll cap] 43))
 obtain ⟨h1, h2⟩ := emp_E s h
 have V : hereV (8) 0 s ll = false := by simp [hereV, Ex.here, eqE, eqE1, *]
 rw [V]
 clear V
 go_enter Tryd.func54, Tryd.ntmps54
 go_wp2
 go_ret
 exact ⟨rfl, uh B0⟩
theorem here8_0 (n : Int) (s : ByteArray) (ll : Nat) (hs : s.size ≤ 1099511627776) (hl : ll ≤ 9223372036854775807) : HereG (8) 0 ⟨#[]⟩ ll := by
 intro b cap w
 have B0 := hide (below_new w (.cells #[.int .i64 8, .int .i64 0, .string ⟨#[]⟩, .slice b ll cap] 43))
 have V : hereV (8) 0 ⟨#[]⟩ ll = (ll == 2) := by simp [hereV, Ex.here, eqE, eqE1, *]
 rw [V]
 clear V
 by_cases h0 : ll = 2
 ·
  subst h0
  go_enter Tryd.func54, Tryd.ntmps54
  go_wp2
  go_ret
  exact ⟨rfl, uh B0⟩
 ·
  have h1 : (ll == 2) = false := beq_eq_false_iff_ne.2 h0
  have h2 : ((ll : Int) == 2) = false := beq_eq_false_iff_ne.2 (by omega)
  rw [h1]
  clear h1 h0
  go_enter Tryd.func54, Tryd.ntmps54
  go_wp2
  go_ret
  exact ⟨rfl, uh B0⟩
theorem here9_n (n : Int) (s : ByteArray) (ll : Nat) (h : n ≠ 0) (hs : s.size ≤ 1099511627776) (hl : ll ≤ 9223372036854775807) : HereG (9) n s ll := by
 intro b cap w
 have B0 := hide (below_new w (.cells #[.int .i64 9, .int .i64 n, .string s, .slice b ll cap] 43))
 have V : hereV (9) n s ll = false := by simp [hereV, Ex.here, eqE, eqE1, *]
 rw [V]
 clear V
 go_enter Tryd.func54, Tryd.ntmps54
 go_wp2
 go_ret
 exact ⟨rfl, uh B0⟩
theorem here9_s (n : Int) (s : ByteArray) (ll : Nat) (h : s ≠ E0) (hs : s.size ≤ 1099511627776) (hl : ll ≤ 9223372036854775807) : HereG (9) 0 s ll := by
 intro b cap w
 have B0 := hide (below_new w (.cells #[.int .i64 9, .int .i64 0, .string s, .slice b ll cap] 43))
 obtain ⟨h1, h2⟩ := emp_E s h
 have V : hereV (9) 0 s ll = false := by simp [hereV, Ex.here, eqE, eqE1, *]
 rw [V]
 clear V
 go_enter Tryd.func54, Tryd.ntmps54
 go_wp2
 go_ret
 exact ⟨rfl, uh B0⟩
theorem here9_0 (n : Int) (s : ByteArray) (ll : Nat) (hs : s.size ≤ 1099511627776) (hl : ll ≤ 9223372036854775807) : HereG (9) 0 ⟨#[]⟩ ll := by
 intro b cap w
 have B0 := hide (below_new w (.cells #[.int .i64 9, .int .i64 0, .string ⟨#[]⟩, .slice b ll cap] 43))
 have V : hereV (9) 0 ⟨#[]⟩ ll = (ll == 2) := by simp [hereV, Ex.here, eqE, eqE1, *]
 rw [V]
 clear V
 by_cases h0 : ll = 2
 ·
  subst h0
  go_enter Tryd.func54, Tryd.ntmps54
  go_wp2
  go_ret
  exact ⟨rfl, uh B0⟩
 ·
  have h1 : (ll == 2) = false := beq_eq_false_iff_ne.2 h0
  have h2 : ((ll : Int) == 2) = false := beq_eq_false_iff_ne.2 (by omega)
  rw [h1]
  clear h1 h0
  go_enter Tryd.func54, Tryd.ntmps54
  go_wp2
  go_ret
  exact ⟨rfl, uh B0⟩
theorem here10_n (n : Int) (s : ByteArray) (ll : Nat) (h : n ≠ 0) (hs : s.size ≤ 1099511627776) (hl : ll ≤ 9223372036854775807) : HereG (10) n s ll := by
 intro b cap w
 have B0 := hide (below_new w (.cells #[.int .i64 10, .int .i64 n, .string s, .slice b ll cap] 43))
 have V : hereV (10) n s ll = false := by simp [hereV, Ex.here, eqE, eqE1, *]
 rw [V]
 clear V
 go_enter Tryd.func54, Tryd.ntmps54
 go_wp2
 go_ret
 exact ⟨rfl, uh B0⟩
theorem here10_s (n : Int) (s : ByteArray) (ll : Nat) (h : s ≠ E0) (hs : s.size ≤ 1099511627776) (hl : ll ≤ 9223372036854775807) : HereG (10) 0 s ll := by
 intro b cap w
 have B0 := hide (below_new w (.cells #[.int .i64 10, .int .i64 0, .string s, .slice b ll cap] 43))
 obtain ⟨h1, h2⟩ := emp_E s h
 have V : hereV (10) 0 s ll = false := by simp [hereV, Ex.here, eqE, eqE1, *]
 rw [V]
 clear V
 go_enter Tryd.func54, Tryd.ntmps54
 go_wp2
 go_ret
 exact ⟨rfl, uh B0⟩
theorem here10_0 (n : Int) (s : ByteArray) (ll : Nat) (hs : s.size ≤ 1099511627776) (hl : ll ≤ 9223372036854775807) : HereG (10) 0 ⟨#[]⟩ ll := by
 intro b cap w
 have B0 := hide (below_new w (.cells #[.int .i64 10, .int .i64 0, .string ⟨#[]⟩, .slice b ll cap] 43))
 have V : hereV (10) 0 ⟨#[]⟩ ll = (ll == 2) := by simp [hereV, Ex.here, eqE, eqE1, *]
 rw [V]
 clear V
 by_cases h0 : ll = 2
 ·
  subst h0
  go_enter Tryd.func54, Tryd.ntmps54
  go_wp2
  go_ret
  exact ⟨rfl, uh B0⟩
 ·
  have h1 : (ll == 2) = false := beq_eq_false_iff_ne.2 h0
  have h2 : ((ll : Int) == 2) = false := beq_eq_false_iff_ne.2 (by omega)
  rw [h1]
  clear h1 h0
  go_enter Tryd.func54, Tryd.ntmps54
  go_wp2
  go_ret
  exact ⟨rfl, uh B0⟩
theorem here_n (n : Int) (s : ByteArray) (ll : Nat) (k : Int) (h1 : k ≠ 1) (h2 : k ≠ 2) (h3 : k ≠ 3) (h4 : k ≠ 4) (h5 : k ≠ 5) (h6 : k ≠ 6) (h7 : k ≠ 7) (h8 : k ≠ 8) (h9 : k ≠ 9) (h10 : k ≠ 10) (h11 : k ≠ 11) (h12 : k ≠ 12) (h : n ≠ 0) (hs : s.size ≤ 1099511627776) (hl : ll ≤ 9223372036854775807) : HereG k n s ll := by
 intro b cap w
 have B0 := hide (below_new w (.cells #[.int .i64 k, .int .i64 n, .string s, .slice b ll cap] 43))
 have g1 : (k == 1) = false := beq_eq_false_iff_ne.2 h1
 have g2 : (k == 2) = false := beq_eq_false_iff_ne.2 h2
 have g3 : (k == 3) = false := beq_eq_false_iff_ne.2 h3
 have g4 : (k == 4) = false := beq_eq_false_iff_ne.2 h4
 have g5 : (k == 5) = false := beq_eq_false_iff_ne.2 h5
 have g6 : (k == 6) = false := beq_eq_false_iff_ne.2 h6
 have g7 : (k == 7) = false := beq_eq_false_iff_ne.2 h7
 have g8 : (k == 8) = false := beq_eq_false_iff_ne.2 h8
 have g9 : (k == 9) = false := beq_eq_false_iff_ne.2 h9
 have g10 : (k == 10) = false := beq_eq_false_iff_ne.2 h10
 have g11 : (k == 11) = false := beq_eq_false_iff_ne.2 h11
 have g12 : (k == 12) = false := beq_eq_false_iff_ne.2 h12
 have m1 : (k != 1) = true := by simp [h1]
 have m2 : (k != 2) = true := by simp [h2]
 have m11 : (k != 11) = true := by simp [h11]
 have m12 : (k != 12) = true := by simp [h12]
 have V : hereV k n s ll = false := by unfold hereV Ex.here; simp only; split; rfl; repeat (first | rfl | rw [if_neg (by omega)])
 rw [V]
 clear V
 go_enter Tryd.func54, Tryd.ntmps54
 go_wp2
 go_ret
 exact ⟨rfl, uh B0⟩
theorem here_s (n : Int) (s : ByteArray) (ll : Nat) (k : Int) (h1 : k ≠ 1) (h2 : k ≠ 2) (h3 : k ≠ 3) (h4 : k ≠ 4) (h5 : k ≠ 5) (h6 : k ≠ 6) (h7 : k ≠ 7) (h8 : k ≠ 8) (h9 : k ≠ 9) (h10 : k ≠ 10) (h11 : k ≠ 11) (h12 : k ≠ 12) (h : s ≠ E0) (hs : s.size ≤ 1099511627776) (hl : ll ≤ 9223372036854775807) : HereG k 0 s ll := by
 intro b cap w
 have B0 := hide (below_new w (.cells #[.int .i64 k, .int .i64 0, .string s, .slice b ll cap] 43))
 have g1 : (k == 1) = false := beq_eq_false_iff_ne.2 h1
 have g2 : (k == 2) = false := beq_eq_false_iff_ne.2 h2
 have g3 : (k == 3) = false := beq_eq_false_iff_ne.2 h3
 have g4 : (k == 4) = false := beq_eq_false_iff_ne.2 h4
 have g5 : (k == 5) = false := beq_eq_false_iff_ne.2 h5
 have g6 : (k == 6) = false := beq_eq_false_iff_ne.2 h6
 have g7 : (k == 7) = false := beq_eq_false_iff_ne.2 h7
 have g8 : (k == 8) = false := beq_eq_false_iff_ne.2 h8
 have g9 : (k == 9) = false := beq_eq_false_iff_ne.2 h9
 have g10 : (k == 10) = false := beq_eq_false_iff_ne.2 h10
 have g11 : (k == 11) = false := beq_eq_false_iff_ne.2 h11
 have g12 : (k == 12) = false := beq_eq_false_iff_ne.2 h12
 have m1 : (k != 1) = true := by simp [h1]
 have m2 : (k != 2) = true := by simp [h2]
 have m11 : (k != 11) = true := by simp [h11]
 have m12 : (k != 12) = true := by simp [h12]
 obtain ⟨hh1, hh2⟩ := emp_E s h
 have V : hereV k 0 s ll = false := by unfold hereV Ex.here; simp only; split; rfl; repeat (first | rfl | rw [if_neg (by omega)])
 rw [V]
 clear V
 go_enter Tryd.func54, Tryd.ntmps54
 go_wp2
 go_ret
 exact ⟨rfl, uh B0⟩
theorem here_0 (n : Int) (s : ByteArray) (ll : Nat) (k : Int) (h1 : k ≠ 1) (h2 : k ≠ 2) (h3 : k ≠ 3) (h4 : k ≠ 4) (h5 : k ≠ 5) (h6 : k ≠ 6) (h7 : k ≠ 7) (h8 : k ≠ 8) (h9 : k ≠ 9) (h10 : k ≠ 10) (h11 : k ≠ 11) (h12 : k ≠ 12) (hs : s.size ≤ 1099511627776) (hl : ll ≤ 9223372036854775807) : HereG k 0 ⟨#[]⟩ ll := by
 intro b cap w
 have B0 := hide (below_new w (.cells #[.int .i64 k, .int .i64 0, .string ⟨#[]⟩, .slice b ll cap] 43))
 have g1 : (k == 1) = false := beq_eq_false_iff_ne.2 h1
 have g2 : (k == 2) = false := beq_eq_false_iff_ne.2 h2
 have g3 : (k == 3) = false := beq_eq_false_iff_ne.2 h3
 have g4 : (k == 4) = false := beq_eq_false_iff_ne.2 h4
 have g5 : (k == 5) = false := beq_eq_false_iff_ne.2 h5
 have g6 : (k == 6) = false := beq_eq_false_iff_ne.2 h6
 have g7 : (k == 7) = false := beq_eq_false_iff_ne.2 h7
 have g8 : (k == 8) = false := beq_eq_false_iff_ne.2 h8
 have g9 : (k == 9) = false := beq_eq_false_iff_ne.2 h9
 have g10 : (k == 10) = false := beq_eq_false_iff_ne.2 h10
 have g11 : (k == 11) = false := beq_eq_false_iff_ne.2 h11
 have g12 : (k == 12) = false := beq_eq_false_iff_ne.2 h12
 have m1 : (k != 1) = true := by simp [h1]
 have m2 : (k != 2) = true := by simp [h2]
 have m11 : (k != 11) = true := by simp [h11]
 have m12 : (k != 12) = true := by simp [h12]
 have V : hereV k 0 ⟨#[]⟩ ll = false := by unfold hereV Ex.here; simp only; split; rfl; repeat (first | rfl | rw [if_neg (by omega)])
 rw [V]
 clear V
 go_enter Tryd.func54, Tryd.ntmps54
 go_wp2
 go_ret
 exact ⟨rfl, uh B0⟩
theorem hereS_any (e : Ex) (b : Option Addr) (cap : Nat) (w : World) (hs : e.s.size ≤ 1099511627776) (hl : e.l.length ≤ 9223372036854775807) : Calls Tryd.prog 54 #[.agg (e.cs b cap)] w fun r w' => r = .returned (.bool e.here) ∧ Below w.heap.size w w' := by
 rw [here_is]
 unfold Ex.cs
 obtain ⟨k, n, s, l⟩ := e
 simp only at hs hl ⊢
 generalize l.length = ll at *
 revert b cap w
 show HereG k n s ll
 by_cases c1 : k = 1
 ·
  subst c1
  by_cases h : s = E0
  · subst h; exact here1_0 n E0 ll hs hl
  · exact here1_s n s ll h hs hl
 by_cases c11 : k = 11
 ·
  subst c11
  by_cases h : s = E0
  · subst h; exact here11_0 n E0 ll hs hl
  · exact here11_s n s ll h hs hl
 by_cases c2 : k = 2
 ·
  subst c2
  by_cases h : n = 0
  · subst h; exact here2_0 0 s ll hs hl
  · exact here2_n n s ll h hs hl
 by_cases c12 : k = 12
 ·
  subst c12
  by_cases h : n = 0
  · subst h; exact here12_0 0 s ll hs hl
  · exact here12_n n s ll h hs hl
 by_cases c3 : k = 3
 ·
  subst c3
  by_cases h : n = 0
  ·
   subst h
   by_cases h : s = E0
   · subst h; exact here3_0 0 E0 ll hs hl
   · exact here3_s 0 s ll h hs hl
  · exact here3_n n s ll h hs hl
 by_cases c4 : k = 4
 ·
  subst c4
  by_cases h : n = 0
  ·
   subst h
   by_cases h : s = E0
   · subst h; exact here4_0 0 E0 ll hs hl
   · exact here4_s 0 s ll h hs hl
  · exact here4_n n s ll h hs hl
 by_cases c5 : k = 5
 ·
  subst c5
  by_cases h : n = 0
  ·
   subst h
   by_cases h : s = E0
   · subst h; exact here5_0 0 E0 ll hs hl
   · exact here5_s 0 s ll h hs hl
  · exact here5_n n s ll h hs hl
 by_cases c6 : k = 6
 ·
  subst c6
  by_cases h : n = 0
  ·
   subst h
   by_cases h : s = E0
   · subst h; exact here6_0 0 E0 ll hs hl
   · exact here6_s 0 s ll h hs hl
  · exact here6_n n s ll h hs hl
 by_cases c7 : k = 7
 ·
  subst c7
  by_cases h : n = 0
  ·
   subst h
   by_cases h : s = E0
   · subst h; exact here7_0 0 E0 ll hs hl
   · exact here7_s 0 s ll h hs hl
  · exact here7_n n s ll h hs hl
 by_cases c8 : k = 8
 ·
  subst c8
  by_cases h : n = 0
  ·
   subst h
   by_cases h : s = E0
   · subst h; exact here8_0 0 E0 ll hs hl
   · exact here8_s 0 s ll h hs hl
  · exact here8_n n s ll h hs hl
 by_cases c9 : k = 9
 ·
  subst c9
  by_cases h : n = 0
  ·
   subst h
   by_cases h : s = E0
   · subst h; exact here9_0 0 E0 ll hs hl
   · exact here9_s 0 s ll h hs hl
  · exact here9_n n s ll h hs hl
 by_cases c10 : k = 10
 ·
  subst c10
  by_cases h : n = 0
  ·
   subst h
   by_cases h : s = E0
   · subst h; exact here10_0 0 E0 ll hs hl
   · exact here10_s 0 s ll h hs hl
  · exact here10_n n s ll h hs hl
 by_cases h : n = 0
 ·
  subst h
  by_cases h : s = E0
  · subst h; exact here_0 0 E0 ll k c1 c2 c3 c4 c5 c6 c7 c8 c9 c10 c11 c12 hs hl
  · exact here_s 0 s ll k c1 c2 c3 c4 c5 c6 c7 c8 c9 c10 c11 c12 h hs hl
 · exact here_n n s ll k c1 c2 c3 c4 c5 c6 c7 c8 c9 c10 c11 c12 h hs hl
def pairT (k : Int) : TypeId := if k = 5 then 118 else if k = 6 then 119 else if k = 7 then 120 else if k = 8 then 121 else if k = 9 then 122 else 123
def tvC (k n : Int) (s : ByteArray) (vs : List Value) : Value :=
 if k = 1 then .iface 115 (.agg #[.int .i64 n]) else if k = 2 then .iface 107 (.agg #[.string s]) else if k = 3 then .iface 109 (.agg #[])
 else if k = 4 then .iface 96 (.agg vs.toArray) else if k = 11 then .iface 111 (.agg #[.int .i64 n]) else if k = 12 then .iface 116 (.agg #[.string s]) else .iface (pairT k) (.agg vs.toArray)
def tv : Ex → Value
 | ⟨k, n, s, l⟩ => tvC k n s (l.map tv)
theorem tv_num (n : Int) (s : ByteArray) : tv ⟨1, n, s, []⟩ = .iface 115 (.agg #[.int .i64 n]) := by rw [tv]; rfl
theorem tv_sym (n : Int) (s : ByteArray) : tv ⟨2, n, s, []⟩ = .iface 107 (.agg #[.string s]) := by rw [tv]; rfl
theorem tv_here (n : Int) (s : ByteArray) : tv ⟨3, n, s, []⟩ = .iface 109 (.agg #[]) := by rw [tv]; rfl
theorem tv_neg (n : Int) (s : ByteArray) (a : Ex) : tv ⟨4, n, s, [a]⟩ = .iface 96 (.agg #[tv a]) := by rw [tv]; rfl
theorem tv_sect (n : Int) (s : ByteArray) : tv ⟨11, n, s, []⟩ = .iface 111 (.agg #[.int .i64 n]) := by rw [tv]; rfl
theorem tv_glob (n : Int) (s : ByteArray) : tv ⟨12, n, s, []⟩ = .iface 116 (.agg #[.string s]) := by rw [tv]; rfl
theorem tv_two {k : Int} (hk : 5 ≤ k ∧ k ≤ 10) (n : Int) (s : ByteArray) (a b : Ex) : tv ⟨k, n, s, [a, b]⟩ = .iface (pairT k) (.agg #[tv a, tv b]) := by
 rw [tv]
 unfold tvC
 rw [if_neg (by omega), if_neg (by omega), if_neg (by omega), if_neg (by omega), if_neg (by omega), if_neg (by omega)]
 rfl
def IfV (v : Value) : Prop := v = .nilIface ∨ ∃ t x, v = .iface t x
theorem IfV.of {v : Value} {p : Prop} (h : v = .nilIface ∨ ∃ t x, v = .iface t x) (hp : p) : IfV v ∧ p := ⟨h, hp⟩
def LeafR (k n : Int) (s : ByteArray) (w : World) (r : Ending) (w' : World) : Prop := ∃ v, r = .returned (.tuple #[v, .bool (hereV k n s 0)]) ∧ (IfV v ∧ (hereV k n s 0 = true → v = tvC k n s [])) ∧ Below w.heap.size w w'
def LeafG (k n : Int) (s : ByteArray) : Prop := ∀ (b : Option Addr) (ll cap : Nat) (w : World), TabK w → Calls Tryd.prog 61 #[.agg #[.int .i64 k, .int .i64 n, .string s, .slice b ll cap]] w (LeafR k n s w)
theorem nil_val {r : Ending} {k n : Int} {s : ByteArray} {w w' : World} {v : Value} {q : Bool} (h : hereV k n s 0 = q) (hr : r = .returned (.tuple #[v, .bool q])) (hv : IfV v ∧ (q = true → v = tvC k n s [])) (hb : Below w.heap.size w w') : LeafR k n s w r w' := ⟨v, by rw [h]; exact hr, ⟨hv.1, fun e => hv.2 (by rw [← h]; exact e)⟩, hb⟩
theorem leaf1_0 (n : Int) (s : ByteArray) : LeafG 1 n ⟨#[]⟩ := by
 intro b ll cap w ht
 obtain ⟨W, hW⟩ : ∃ W, w.alloc (.cells #[.int .i64 1, .int .i64 n, .string ⟨#[]⟩, .slice b ll cap] 43) = W := ⟨_, rfl⟩
 have B0 := hide (below_new w (.cells #[.int .i64 1, .int .i64 n, .string ⟨#[]⟩, .slice b ll cap] 43))
 have hg : W.heap[w.heap.size]? = some (.cells #[.int .i64 1, .int .i64 n, .string ⟨#[]⟩, .slice b ll cap] 43 (0, 0)) := by rw [← hW]; exact Array.getElem?_push_size
 rw [hW] at B0
 have x0 := Lib.cell_of_heap hg 0
 have x1 := Lib.cell_of_heap hg 1
 have x2 := Lib.cell_of_heap hg 2
 have xl : w.heap.size < W.heap.size := (Array.getElem?_eq_some_iff.1 hg).1
 have y0 : ∀ y : Sub W.heap.size W, y.w.cell? ⟨w.heap.size, 0, none⟩ = some (.int .i64 1) := fun y => (y.h.cell (p := ⟨w.heap.size, _, none⟩) xl).trans x0
 have y1 : ∀ y : Sub W.heap.size W, y.w.cell? ⟨w.heap.size, 1, none⟩ = some (.int .i64 n) := fun y => (y.h.cell (p := ⟨w.heap.size, _, none⟩) xl).trans x1
 have y2 : ∀ y : Sub W.heap.size W, y.w.cell? ⟨w.heap.size, 2, none⟩ = some (.string ⟨#[]⟩) := fun y => (y.h.cell (p := ⟨w.heap.size, _, none⟩) xl).trans x2
 have ne := Sub.ne W.heap.size W
 have HZ := hide (Nat.le_refl W.heap.size)
 have TB := hide (fun y : Sub W.heap.size W => (ht.next (uh B0)).next y.h)
 have HB := hide (fun y : Sub W.heap.size W => (uh B0).trans (y.h.mono (uh B0).size))
 clear hg xl ht
 have V := hide (show hereV 1 n ⟨#[]⟩ 0 = inB n 0 65535 by simp [hereV, Ex.here, eqE, eqE1, *])
 have FN := hide (fun r w' (v : Value) => nil_val (r := r) (w := w) (w' := w') (v := v) (uh V))
 have Q := hide (fun y : Sub W.heap.size W => isWord_any n y.w)
 generalize inB n 0 65535 = q at *
 generalize LeafR 1 n ⟨#[]⟩ w = R at *
 cases q <;> (go_enter Tryd.func61, Tryd.ntmps61; go_wp2_with fail; refine wp_region_sub (⟨W, Below.refl _ _⟩ : Sub W.heap.size W) (by kernel_rfl) (by kernel_rfl) ?_; (repeat (go_big_quiet_step (first | (go_at_call 70; exact Sub.same (uh Q _))))); refine wpQuiet_nil ?_; intro y; go_wp2; (try go_ret2); exact uh FN _ _ _ rfl (IfV.of (by first | exact .inl rfl | exact .inr ⟨_, _, rfl⟩) (fun h => by first | rfl | cases h)) (uh HB _))
theorem leaf1_s (n : Int) (s : ByteArray) (h : s ≠ E0) : LeafG 1 n s := by
 intro b ll cap w ht
 obtain ⟨W, hW⟩ : ∃ W, w.alloc (.cells #[.int .i64 1, .int .i64 n, .string s, .slice b ll cap] 43) = W := ⟨_, rfl⟩
 have B0 := hide (below_new w (.cells #[.int .i64 1, .int .i64 n, .string s, .slice b ll cap] 43))
 have hg : W.heap[w.heap.size]? = some (.cells #[.int .i64 1, .int .i64 n, .string s, .slice b ll cap] 43 (0, 0)) := by rw [← hW]; exact Array.getElem?_push_size
 rw [hW] at B0
 have x0 := Lib.cell_of_heap hg 0
 have x1 := Lib.cell_of_heap hg 1
 have x2 := Lib.cell_of_heap hg 2
 have xl : w.heap.size < W.heap.size := (Array.getElem?_eq_some_iff.1 hg).1
 have y0 : ∀ y : Sub W.heap.size W, y.w.cell? ⟨w.heap.size, 0, none⟩ = some (.int .i64 1) := fun y => (y.h.cell (p := ⟨w.heap.size, _, none⟩) xl).trans x0
 have y1 : ∀ y : Sub W.heap.size W, y.w.cell? ⟨w.heap.size, 1, none⟩ = some (.int .i64 n) := fun y => (y.h.cell (p := ⟨w.heap.size, _, none⟩) xl).trans x1
 have y2 : ∀ y : Sub W.heap.size W, y.w.cell? ⟨w.heap.size, 2, none⟩ = some (.string s) := fun y => (y.h.cell (p := ⟨w.heap.size, _, none⟩) xl).trans x2
 have ne := Sub.ne W.heap.size W
 have HZ := hide (Nat.le_refl W.heap.size)
 have TB := hide (fun y : Sub W.heap.size W => (ht.next (uh B0)).next y.h)
 have HB := hide (fun y : Sub W.heap.size W => (uh B0).trans (y.h.mono (uh B0).size))
 clear hg xl ht
 obtain ⟨h1, h2⟩ := emp_E s h
 have V := hide (show hereV 1 n s 0 = false by simp [hereV, Ex.here, eqE, eqE1, *])
 have FN := hide (fun r w' (v : Value) => nil_val (r := r) (w := w) (w' := w') (v := v) (uh V))
 have Q := hide (fun y : Sub W.heap.size W => isWord_any n y.w)
 generalize inB n 0 65535 = q at *
 generalize LeafR 1 n s w = R at *
 cases q <;> (go_enter Tryd.func61, Tryd.ntmps61; go_wp2_with fail; refine wp_region_sub (⟨W, Below.refl _ _⟩ : Sub W.heap.size W) (by kernel_rfl) (by kernel_rfl) ?_; (repeat (go_big_quiet_step (first | (go_at_call 70; exact Sub.same (uh Q _))))); refine wpQuiet_nil ?_; intro y; go_wp2; (try go_ret2); exact uh FN _ _ _ rfl (IfV.of (by first | exact .inl rfl | exact .inr ⟨_, _, rfl⟩) (fun h => by first | rfl | cases h)) (uh HB _))
theorem leaf2_0 (n : Int) (s : ByteArray) (hs : s.size ≤ 1099511627776) : LeafG 2 0 s := by
 intro b ll cap w ht
 obtain ⟨W, hW⟩ : ∃ W, w.alloc (.cells #[.int .i64 2, .int .i64 0, .string s, .slice b ll cap] 43) = W := ⟨_, rfl⟩
 have B0 := hide (below_new w (.cells #[.int .i64 2, .int .i64 0, .string s, .slice b ll cap] 43))
 have hg : W.heap[w.heap.size]? = some (.cells #[.int .i64 2, .int .i64 0, .string s, .slice b ll cap] 43 (0, 0)) := by rw [← hW]; exact Array.getElem?_push_size
 rw [hW] at B0
 have x0 := Lib.cell_of_heap hg 0
 have x1 := Lib.cell_of_heap hg 1
 have x2 := Lib.cell_of_heap hg 2
 have xl : w.heap.size < W.heap.size := (Array.getElem?_eq_some_iff.1 hg).1
 have y0 : ∀ y : Sub W.heap.size W, y.w.cell? ⟨w.heap.size, 0, none⟩ = some (.int .i64 2) := fun y => (y.h.cell (p := ⟨w.heap.size, _, none⟩) xl).trans x0
 have y1 : ∀ y : Sub W.heap.size W, y.w.cell? ⟨w.heap.size, 1, none⟩ = some (.int .i64 0) := fun y => (y.h.cell (p := ⟨w.heap.size, _, none⟩) xl).trans x1
 have y2 : ∀ y : Sub W.heap.size W, y.w.cell? ⟨w.heap.size, 2, none⟩ = some (.string s) := fun y => (y.h.cell (p := ⟨w.heap.size, _, none⟩) xl).trans x2
 have ne := Sub.ne W.heap.size W
 have HZ := hide (Nat.le_refl W.heap.size)
 have TB := hide (fun y : Sub W.heap.size W => (ht.next (uh B0)).next y.h)
 have HB := hide (fun y : Sub W.heap.size W => (uh B0).trans (y.h.mono (uh B0).size))
 clear hg xl ht
 have V := hide (show hereV 2 0 s 0 = nameB s by simp [hereV, Ex.here, eqE, eqE1, *])
 have FN := hide (fun r w' (v : Value) => nil_val (r := r) (w := w) (w' := w') (v := v) (uh V))
 have Q := hide (fun y : Sub W.heap.size W => nameI_any s y.w hs (uh TB y))
 generalize nameB s = q at *
 generalize LeafR 2 0 s w = R at *
 cases q <;> (go_enter Tryd.func61, Tryd.ntmps61; go_wp2_with fail; refine wp_region_sub (⟨W, Below.refl _ _⟩ : Sub W.heap.size W) (by kernel_rfl) (by kernel_rfl) ?_; (repeat (go_big_quiet_step (first | (go_at_call 30; exact Sub.same (uh Q _))))); refine wpQuiet_nil ?_; intro y; go_wp2; (try go_ret2); exact uh FN _ _ _ rfl (IfV.of (by first | exact .inl rfl | exact .inr ⟨_, _, rfl⟩) (fun h => by first | rfl | cases h)) (uh HB _))
theorem leaf2_n (n : Int) (s : ByteArray) (h : n ≠ 0) (hs : s.size ≤ 1099511627776) : LeafG 2 n s := by
 intro b ll cap w ht
 obtain ⟨W, hW⟩ : ∃ W, w.alloc (.cells #[.int .i64 2, .int .i64 n, .string s, .slice b ll cap] 43) = W := ⟨_, rfl⟩
 have B0 := hide (below_new w (.cells #[.int .i64 2, .int .i64 n, .string s, .slice b ll cap] 43))
 have hg : W.heap[w.heap.size]? = some (.cells #[.int .i64 2, .int .i64 n, .string s, .slice b ll cap] 43 (0, 0)) := by rw [← hW]; exact Array.getElem?_push_size
 rw [hW] at B0
 have x0 := Lib.cell_of_heap hg 0
 have x1 := Lib.cell_of_heap hg 1
 have x2 := Lib.cell_of_heap hg 2
 have xl : w.heap.size < W.heap.size := (Array.getElem?_eq_some_iff.1 hg).1
 have y0 : ∀ y : Sub W.heap.size W, y.w.cell? ⟨w.heap.size, 0, none⟩ = some (.int .i64 2) := fun y => (y.h.cell (p := ⟨w.heap.size, _, none⟩) xl).trans x0
 have y1 : ∀ y : Sub W.heap.size W, y.w.cell? ⟨w.heap.size, 1, none⟩ = some (.int .i64 n) := fun y => (y.h.cell (p := ⟨w.heap.size, _, none⟩) xl).trans x1
 have y2 : ∀ y : Sub W.heap.size W, y.w.cell? ⟨w.heap.size, 2, none⟩ = some (.string s) := fun y => (y.h.cell (p := ⟨w.heap.size, _, none⟩) xl).trans x2
 have ne := Sub.ne W.heap.size W
 have HZ := hide (Nat.le_refl W.heap.size)
 have TB := hide (fun y : Sub W.heap.size W => (ht.next (uh B0)).next y.h)
 have HB := hide (fun y : Sub W.heap.size W => (uh B0).trans (y.h.mono (uh B0).size))
 clear hg xl ht
 have hn : (n == 0) = false := beq_eq_false_iff_ne.2 h
 have V := hide (show hereV 2 n s 0 = false by simp [hereV, Ex.here, eqE, eqE1, *])
 have FN := hide (fun r w' (v : Value) => nil_val (r := r) (w := w) (w' := w') (v := v) (uh V))
 have Q := hide (fun y : Sub W.heap.size W => nameI_any s y.w hs (uh TB y))
 generalize nameB s = q at *
 generalize LeafR 2 n s w = R at *
 cases q <;> (go_enter Tryd.func61, Tryd.ntmps61; go_wp2_with fail; refine wp_region_sub (⟨W, Below.refl _ _⟩ : Sub W.heap.size W) (by kernel_rfl) (by kernel_rfl) ?_; (repeat (go_big_quiet_step (first | (go_at_call 30; exact Sub.same (uh Q _))))); refine wpQuiet_nil ?_; intro y; go_wp2; (try go_ret2); exact uh FN _ _ _ rfl (IfV.of (by first | exact .inl rfl | exact .inr ⟨_, _, rfl⟩) (fun h => by first | rfl | cases h)) (uh HB _))
theorem leaf12_0 (n : Int) (s : ByteArray) (hs : s.size ≤ 1099511627776) : LeafG 12 0 s := by
 intro b ll cap w ht
 obtain ⟨W, hW⟩ : ∃ W, w.alloc (.cells #[.int .i64 12, .int .i64 0, .string s, .slice b ll cap] 43) = W := ⟨_, rfl⟩
 have B0 := hide (below_new w (.cells #[.int .i64 12, .int .i64 0, .string s, .slice b ll cap] 43))
 have hg : W.heap[w.heap.size]? = some (.cells #[.int .i64 12, .int .i64 0, .string s, .slice b ll cap] 43 (0, 0)) := by rw [← hW]; exact Array.getElem?_push_size
 rw [hW] at B0
 have x0 := Lib.cell_of_heap hg 0
 have x1 := Lib.cell_of_heap hg 1
 have x2 := Lib.cell_of_heap hg 2
 have xl : w.heap.size < W.heap.size := (Array.getElem?_eq_some_iff.1 hg).1
 have y0 : ∀ y : Sub W.heap.size W, y.w.cell? ⟨w.heap.size, 0, none⟩ = some (.int .i64 12) := fun y => (y.h.cell (p := ⟨w.heap.size, _, none⟩) xl).trans x0
 have y1 : ∀ y : Sub W.heap.size W, y.w.cell? ⟨w.heap.size, 1, none⟩ = some (.int .i64 0) := fun y => (y.h.cell (p := ⟨w.heap.size, _, none⟩) xl).trans x1
 have y2 : ∀ y : Sub W.heap.size W, y.w.cell? ⟨w.heap.size, 2, none⟩ = some (.string s) := fun y => (y.h.cell (p := ⟨w.heap.size, _, none⟩) xl).trans x2
 have ne := Sub.ne W.heap.size W
 have HZ := hide (Nat.le_refl W.heap.size)
 have TB := hide (fun y : Sub W.heap.size W => (ht.next (uh B0)).next y.h)
 have HB := hide (fun y : Sub W.heap.size W => (uh B0).trans (y.h.mono (uh B0).size))
 clear hg xl ht
 have V := hide (show hereV 12 0 s 0 = nameB s by simp [hereV, Ex.here, eqE, eqE1, *])
 have FN := hide (fun r w' (v : Value) => nil_val (r := r) (w := w) (w' := w') (v := v) (uh V))
 have Q := hide (fun y : Sub W.heap.size W => nameI_any s y.w hs (uh TB y))
 generalize nameB s = q at *
 generalize LeafR 12 0 s w = R at *
 cases q <;> (go_enter Tryd.func61, Tryd.ntmps61; go_wp2_with fail; refine wp_region_sub (⟨W, Below.refl _ _⟩ : Sub W.heap.size W) (by kernel_rfl) (by kernel_rfl) ?_; (repeat (go_big_quiet_step (first | (go_at_call 30; exact Sub.same (uh Q _))))); refine wpQuiet_nil ?_; intro y; go_wp2; (try go_ret2); exact uh FN _ _ _ rfl (IfV.of (by first | exact .inl rfl | exact .inr ⟨_, _, rfl⟩) (fun h => by first | rfl | cases h)) (uh HB _))
theorem leaf12_n (n : Int) (s : ByteArray) (h : n ≠ 0) (hs : s.size ≤ 1099511627776) : LeafG 12 n s := by
 intro b ll cap w ht
 obtain ⟨W, hW⟩ : ∃ W, w.alloc (.cells #[.int .i64 12, .int .i64 n, .string s, .slice b ll cap] 43) = W := ⟨_, rfl⟩
 have B0 := hide (below_new w (.cells #[.int .i64 12, .int .i64 n, .string s, .slice b ll cap] 43))
 have hg : W.heap[w.heap.size]? = some (.cells #[.int .i64 12, .int .i64 n, .string s, .slice b ll cap] 43 (0, 0)) := by rw [← hW]; exact Array.getElem?_push_size
 rw [hW] at B0
 have x0 := Lib.cell_of_heap hg 0
 have x1 := Lib.cell_of_heap hg 1
 have x2 := Lib.cell_of_heap hg 2
 have xl : w.heap.size < W.heap.size := (Array.getElem?_eq_some_iff.1 hg).1
 have y0 : ∀ y : Sub W.heap.size W, y.w.cell? ⟨w.heap.size, 0, none⟩ = some (.int .i64 12) := fun y => (y.h.cell (p := ⟨w.heap.size, _, none⟩) xl).trans x0
 have y1 : ∀ y : Sub W.heap.size W, y.w.cell? ⟨w.heap.size, 1, none⟩ = some (.int .i64 n) := fun y => (y.h.cell (p := ⟨w.heap.size, _, none⟩) xl).trans x1
 have y2 : ∀ y : Sub W.heap.size W, y.w.cell? ⟨w.heap.size, 2, none⟩ = some (.string s) := fun y => (y.h.cell (p := ⟨w.heap.size, _, none⟩) xl).trans x2
 have ne := Sub.ne W.heap.size W
 have HZ := hide (Nat.le_refl W.heap.size)
 have TB := hide (fun y : Sub W.heap.size W => (ht.next (uh B0)).next y.h)
 have HB := hide (fun y : Sub W.heap.size W => (uh B0).trans (y.h.mono (uh B0).size))
 clear hg xl ht
 have hn : (n == 0) = false := beq_eq_false_iff_ne.2 h
 have V := hide (show hereV 12 n s 0 = false by simp [hereV, Ex.here, eqE, eqE1, *])
 have FN := hide (fun r w' (v : Value) => nil_val (r := r) (w := w) (w' := w') (v := v) (uh V))
 have Q := hide (fun y : Sub W.heap.size W => nameI_any s y.w hs (uh TB y))
 generalize nameB s = q at *
 generalize LeafR 12 n s w = R at *
 cases q <;> (go_enter Tryd.func61, Tryd.ntmps61; go_wp2_with fail; refine wp_region_sub (⟨W, Below.refl _ _⟩ : Sub W.heap.size W) (by kernel_rfl) (by kernel_rfl) ?_; (repeat (go_big_quiet_step (first | (go_at_call 30; exact Sub.same (uh Q _))))); refine wpQuiet_nil ?_; intro y; go_wp2; (try go_ret2); exact uh FN _ _ _ rfl (IfV.of (by first | exact .inl rfl | exact .inr ⟨_, _, rfl⟩) (fun h => by first | rfl | cases h)) (uh HB _))
theorem leaf3_0 (n : Int) (s : ByteArray) : LeafG 3 0 ⟨#[]⟩ := by
 intro b ll cap w ht
 obtain ⟨W, hW⟩ : ∃ W, w.alloc (.cells #[.int .i64 3, .int .i64 0, .string ⟨#[]⟩, .slice b ll cap] 43) = W := ⟨_, rfl⟩
 have B0 := hide (below_new w (.cells #[.int .i64 3, .int .i64 0, .string ⟨#[]⟩, .slice b ll cap] 43))
 have hg : W.heap[w.heap.size]? = some (.cells #[.int .i64 3, .int .i64 0, .string ⟨#[]⟩, .slice b ll cap] 43 (0, 0)) := by rw [← hW]; exact Array.getElem?_push_size
 rw [hW] at B0
 have x0 := Lib.cell_of_heap hg 0
 have x1 := Lib.cell_of_heap hg 1
 have x2 := Lib.cell_of_heap hg 2
 have xl : w.heap.size < W.heap.size := (Array.getElem?_eq_some_iff.1 hg).1
 have y0 : ∀ y : Sub W.heap.size W, y.w.cell? ⟨w.heap.size, 0, none⟩ = some (.int .i64 3) := fun y => (y.h.cell (p := ⟨w.heap.size, _, none⟩) xl).trans x0
 have y1 : ∀ y : Sub W.heap.size W, y.w.cell? ⟨w.heap.size, 1, none⟩ = some (.int .i64 0) := fun y => (y.h.cell (p := ⟨w.heap.size, _, none⟩) xl).trans x1
 have y2 : ∀ y : Sub W.heap.size W, y.w.cell? ⟨w.heap.size, 2, none⟩ = some (.string ⟨#[]⟩) := fun y => (y.h.cell (p := ⟨w.heap.size, _, none⟩) xl).trans x2
 have ne := Sub.ne W.heap.size W
 have HZ := hide (Nat.le_refl W.heap.size)
 have TB := hide (fun y : Sub W.heap.size W => (ht.next (uh B0)).next y.h)
 have HB := hide (fun y : Sub W.heap.size W => (uh B0).trans (y.h.mono (uh B0).size))
 clear hg xl ht
 have V := hide (show hereV 3 0 ⟨#[]⟩ 0 = true by simp [hereV, Ex.here, eqE, eqE1, *])
 have FN := hide (fun r w' (v : Value) => nil_val (r := r) (w := w) (w' := w') (v := v) (uh V))
 generalize LeafR 3 0 ⟨#[]⟩ w = R at *
 (go_enter Tryd.func61, Tryd.ntmps61; go_wp2_with fail; refine wp_region_sub (⟨W, Below.refl _ _⟩ : Sub W.heap.size W) (by kernel_rfl) (by kernel_rfl) ?_; (repeat (go_big_quiet_step (first | fail))); refine wpQuiet_nil ?_; intro y; go_wp2; (try go_ret2); exact uh FN _ _ _ rfl (IfV.of (by first | exact .inl rfl | exact .inr ⟨_, _, rfl⟩) (fun h => by first | rfl | cases h)) (uh HB _))
theorem leaf3_n (n : Int) (s : ByteArray) (h : n ≠ 0) : LeafG 3 n s := by
 intro b ll cap w ht
 obtain ⟨W, hW⟩ : ∃ W, w.alloc (.cells #[.int .i64 3, .int .i64 n, .string s, .slice b ll cap] 43) = W := ⟨_, rfl⟩
 have B0 := hide (below_new w (.cells #[.int .i64 3, .int .i64 n, .string s, .slice b ll cap] 43))
 have hg : W.heap[w.heap.size]? = some (.cells #[.int .i64 3, .int .i64 n, .string s, .slice b ll cap] 43 (0, 0)) := by rw [← hW]; exact Array.getElem?_push_size
 rw [hW] at B0
 have x0 := Lib.cell_of_heap hg 0
 have x1 := Lib.cell_of_heap hg 1
 have x2 := Lib.cell_of_heap hg 2
 have xl : w.heap.size < W.heap.size := (Array.getElem?_eq_some_iff.1 hg).1
 have y0 : ∀ y : Sub W.heap.size W, y.w.cell? ⟨w.heap.size, 0, none⟩ = some (.int .i64 3) := fun y => (y.h.cell (p := ⟨w.heap.size, _, none⟩) xl).trans x0
 have y1 : ∀ y : Sub W.heap.size W, y.w.cell? ⟨w.heap.size, 1, none⟩ = some (.int .i64 n) := fun y => (y.h.cell (p := ⟨w.heap.size, _, none⟩) xl).trans x1
 have y2 : ∀ y : Sub W.heap.size W, y.w.cell? ⟨w.heap.size, 2, none⟩ = some (.string s) := fun y => (y.h.cell (p := ⟨w.heap.size, _, none⟩) xl).trans x2
 have ne := Sub.ne W.heap.size W
 have HZ := hide (Nat.le_refl W.heap.size)
 have TB := hide (fun y : Sub W.heap.size W => (ht.next (uh B0)).next y.h)
 have HB := hide (fun y : Sub W.heap.size W => (uh B0).trans (y.h.mono (uh B0).size))
 clear hg xl ht
 have hn : (n == 0) = false := beq_eq_false_iff_ne.2 h
 have V := hide (show hereV 3 n s 0 = false by simp [hereV, Ex.here, eqE, eqE1, *])
 have FN := hide (fun r w' (v : Value) => nil_val (r := r) (w := w) (w' := w') (v := v) (uh V))
 generalize LeafR 3 n s w = R at *
 (go_enter Tryd.func61, Tryd.ntmps61; go_wp2_with fail; refine wp_region_sub (⟨W, Below.refl _ _⟩ : Sub W.heap.size W) (by kernel_rfl) (by kernel_rfl) ?_; (repeat (go_big_quiet_step (first | fail))); refine wpQuiet_nil ?_; intro y; go_wp2; (try go_ret2); exact uh FN _ _ _ rfl (IfV.of (by first | exact .inl rfl | exact .inr ⟨_, _, rfl⟩) (fun h => by first | rfl | cases h)) (uh HB _))
theorem leaf3_s (n : Int) (s : ByteArray) (h : s ≠ E0) : LeafG 3 0 s := by
 intro b ll cap w ht
 obtain ⟨W, hW⟩ : ∃ W, w.alloc (.cells #[.int .i64 3, .int .i64 0, .string s, .slice b ll cap] 43) = W := ⟨_, rfl⟩
 have B0 := hide (below_new w (.cells #[.int .i64 3, .int .i64 0, .string s, .slice b ll cap] 43))
 have hg : W.heap[w.heap.size]? = some (.cells #[.int .i64 3, .int .i64 0, .string s, .slice b ll cap] 43 (0, 0)) := by rw [← hW]; exact Array.getElem?_push_size
 rw [hW] at B0
 have x0 := Lib.cell_of_heap hg 0
 have x1 := Lib.cell_of_heap hg 1
 have x2 := Lib.cell_of_heap hg 2
 have xl : w.heap.size < W.heap.size := (Array.getElem?_eq_some_iff.1 hg).1
 have y0 : ∀ y : Sub W.heap.size W, y.w.cell? ⟨w.heap.size, 0, none⟩ = some (.int .i64 3) := fun y => (y.h.cell (p := ⟨w.heap.size, _, none⟩) xl).trans x0
 have y1 : ∀ y : Sub W.heap.size W, y.w.cell? ⟨w.heap.size, 1, none⟩ = some (.int .i64 0) := fun y => (y.h.cell (p := ⟨w.heap.size, _, none⟩) xl).trans x1
 have y2 : ∀ y : Sub W.heap.size W, y.w.cell? ⟨w.heap.size, 2, none⟩ = some (.string s) := fun y => (y.h.cell (p := ⟨w.heap.size, _, none⟩) xl).trans x2
 have ne := Sub.ne W.heap.size W
 have HZ := hide (Nat.le_refl W.heap.size)
 have TB := hide (fun y : Sub W.heap.size W => (ht.next (uh B0)).next y.h)
 have HB := hide (fun y : Sub W.heap.size W => (uh B0).trans (y.h.mono (uh B0).size))
 clear hg xl ht
 obtain ⟨h1, h2⟩ := emp_E s h
 have V := hide (show hereV 3 0 s 0 = false by simp [hereV, Ex.here, eqE, eqE1, *])
 have FN := hide (fun r w' (v : Value) => nil_val (r := r) (w := w) (w' := w') (v := v) (uh V))
 generalize LeafR 3 0 s w = R at *
 (go_enter Tryd.func61, Tryd.ntmps61; go_wp2_with fail; refine wp_region_sub (⟨W, Below.refl _ _⟩ : Sub W.heap.size W) (by kernel_rfl) (by kernel_rfl) ?_; (repeat (go_big_quiet_step (first | fail))); refine wpQuiet_nil ?_; intro y; go_wp2; (try go_ret2); exact uh FN _ _ _ rfl (IfV.of (by first | exact .inl rfl | exact .inr ⟨_, _, rfl⟩) (fun h => by first | rfl | cases h)) (uh HB _))
theorem leaf11_s (n : Int) (s : ByteArray) (h : s ≠ E0) : LeafG 11 n s := by
 intro b ll cap w ht
 obtain ⟨W, hW⟩ : ∃ W, w.alloc (.cells #[.int .i64 11, .int .i64 n, .string s, .slice b ll cap] 43) = W := ⟨_, rfl⟩
 have B0 := hide (below_new w (.cells #[.int .i64 11, .int .i64 n, .string s, .slice b ll cap] 43))
 have hg : W.heap[w.heap.size]? = some (.cells #[.int .i64 11, .int .i64 n, .string s, .slice b ll cap] 43 (0, 0)) := by rw [← hW]; exact Array.getElem?_push_size
 rw [hW] at B0
 have x0 := Lib.cell_of_heap hg 0
 have x1 := Lib.cell_of_heap hg 1
 have x2 := Lib.cell_of_heap hg 2
 have xl : w.heap.size < W.heap.size := (Array.getElem?_eq_some_iff.1 hg).1
 have y0 : ∀ y : Sub W.heap.size W, y.w.cell? ⟨w.heap.size, 0, none⟩ = some (.int .i64 11) := fun y => (y.h.cell (p := ⟨w.heap.size, _, none⟩) xl).trans x0
 have y1 : ∀ y : Sub W.heap.size W, y.w.cell? ⟨w.heap.size, 1, none⟩ = some (.int .i64 n) := fun y => (y.h.cell (p := ⟨w.heap.size, _, none⟩) xl).trans x1
 have y2 : ∀ y : Sub W.heap.size W, y.w.cell? ⟨w.heap.size, 2, none⟩ = some (.string s) := fun y => (y.h.cell (p := ⟨w.heap.size, _, none⟩) xl).trans x2
 have ne := Sub.ne W.heap.size W
 have HZ := hide (Nat.le_refl W.heap.size)
 have TB := hide (fun y : Sub W.heap.size W => (ht.next (uh B0)).next y.h)
 have HB := hide (fun y : Sub W.heap.size W => (uh B0).trans (y.h.mono (uh B0).size))
 clear hg xl ht
 obtain ⟨h1, h2⟩ := emp_E s h
 have V := hide (show hereV 11 n s 0 = false by simp [hereV, Ex.here, eqE, eqE1, *])
 have FN := hide (fun r w' (v : Value) => nil_val (r := r) (w := w) (w' := w') (v := v) (uh V))
 generalize LeafR 11 n s w = R at *
 by_cases g1 : 0 ≤ n
 ·
  by_cases g2 : n ≤ 9
  · (go_enter Tryd.func61, Tryd.ntmps61; go_wp2_with fail; refine wp_region_sub (⟨W, Below.refl _ _⟩ : Sub W.heap.size W) (by kernel_rfl) (by kernel_rfl) ?_; (repeat (go_big_quiet_step (first | fail))); refine wpQuiet_nil ?_; intro y; go_wp2; (try go_ret2); exact uh FN _ _ _ rfl (IfV.of (by first | exact .inl rfl | exact .inr ⟨_, _, rfl⟩) (fun h => by first | rfl | cases h)) (uh HB _))
  ·
   have g4 : decide (n ≤ 9) = false := decide_eq_false g2
   (go_enter Tryd.func61, Tryd.ntmps61; go_wp2_with fail; refine wp_region_sub (⟨W, Below.refl _ _⟩ : Sub W.heap.size W) (by kernel_rfl) (by kernel_rfl) ?_; (repeat (go_big_quiet_step (first | fail))); refine wpQuiet_nil ?_; intro y; go_wp2; (try go_ret2); exact uh FN _ _ _ rfl (IfV.of (by first | exact .inl rfl | exact .inr ⟨_, _, rfl⟩) (fun h => by first | rfl | cases h)) (uh HB _))
 ·
  have g3 : decide (0 ≤ n) = false := decide_eq_false g1
  (go_enter Tryd.func61, Tryd.ntmps61; go_wp2_with fail; refine wp_region_sub (⟨W, Below.refl _ _⟩ : Sub W.heap.size W) (by kernel_rfl) (by kernel_rfl) ?_; (repeat (go_big_quiet_step (first | fail))); refine wpQuiet_nil ?_; intro y; go_wp2; (try go_ret2); exact uh FN _ _ _ rfl (IfV.of (by first | exact .inl rfl | exact .inr ⟨_, _, rfl⟩) (fun h => by first | rfl | cases h)) (uh HB _))
theorem leaf11_0 (n : Int) (s : ByteArray) : LeafG 11 n ⟨#[]⟩ := by
 intro b ll cap w ht
 obtain ⟨W, hW⟩ : ∃ W, w.alloc (.cells #[.int .i64 11, .int .i64 n, .string ⟨#[]⟩, .slice b ll cap] 43) = W := ⟨_, rfl⟩
 have B0 := hide (below_new w (.cells #[.int .i64 11, .int .i64 n, .string ⟨#[]⟩, .slice b ll cap] 43))
 have hg : W.heap[w.heap.size]? = some (.cells #[.int .i64 11, .int .i64 n, .string ⟨#[]⟩, .slice b ll cap] 43 (0, 0)) := by rw [← hW]; exact Array.getElem?_push_size
 rw [hW] at B0
 have x0 := Lib.cell_of_heap hg 0
 have x1 := Lib.cell_of_heap hg 1
 have x2 := Lib.cell_of_heap hg 2
 have xl : w.heap.size < W.heap.size := (Array.getElem?_eq_some_iff.1 hg).1
 have y0 : ∀ y : Sub W.heap.size W, y.w.cell? ⟨w.heap.size, 0, none⟩ = some (.int .i64 11) := fun y => (y.h.cell (p := ⟨w.heap.size, _, none⟩) xl).trans x0
 have y1 : ∀ y : Sub W.heap.size W, y.w.cell? ⟨w.heap.size, 1, none⟩ = some (.int .i64 n) := fun y => (y.h.cell (p := ⟨w.heap.size, _, none⟩) xl).trans x1
 have y2 : ∀ y : Sub W.heap.size W, y.w.cell? ⟨w.heap.size, 2, none⟩ = some (.string ⟨#[]⟩) := fun y => (y.h.cell (p := ⟨w.heap.size, _, none⟩) xl).trans x2
 have ne := Sub.ne W.heap.size W
 have HZ := hide (Nat.le_refl W.heap.size)
 have TB := hide (fun y : Sub W.heap.size W => (ht.next (uh B0)).next y.h)
 have HB := hide (fun y : Sub W.heap.size W => (uh B0).trans (y.h.mono (uh B0).size))
 clear hg xl ht
 by_cases g1 : 0 ≤ n
 ·
  by_cases g2 : n ≤ 9
  ·
   have e : inB n 0 9 = true := by unfold inB; simp <;> omega
   have V := hide (show hereV 11 n ⟨#[]⟩ 0 = true by simp [hereV, Ex.here, eqE, eqE1, e])
   have FN := hide (fun r w' (v : Value) => nil_val (r := r) (w := w) (w' := w') (v := v) (uh V))
   generalize LeafR 11 n ⟨#[]⟩ w = R at *
   clear e
   (go_enter Tryd.func61, Tryd.ntmps61; go_wp2_with fail; refine wp_region_sub (⟨W, Below.refl _ _⟩ : Sub W.heap.size W) (by kernel_rfl) (by kernel_rfl) ?_; (repeat (go_big_quiet_step (first | fail))); refine wpQuiet_nil ?_; intro y; go_wp2; (try go_ret2); exact uh FN _ _ _ rfl (IfV.of (by first | exact .inl rfl | exact .inr ⟨_, _, rfl⟩) (fun h => by first | rfl | cases h)) (uh HB _))
  ·
   have g4 : decide (n ≤ 9) = false := decide_eq_false g2
   have e : inB n 0 9 = false := by unfold inB; simp <;> omega
   have V := hide (show hereV 11 n ⟨#[]⟩ 0 = false by simp [hereV, Ex.here, eqE, eqE1, e])
   have FN := hide (fun r w' (v : Value) => nil_val (r := r) (w := w) (w' := w') (v := v) (uh V))
   generalize LeafR 11 n ⟨#[]⟩ w = R at *
   clear e
   (go_enter Tryd.func61, Tryd.ntmps61; go_wp2_with fail; refine wp_region_sub (⟨W, Below.refl _ _⟩ : Sub W.heap.size W) (by kernel_rfl) (by kernel_rfl) ?_; (repeat (go_big_quiet_step (first | fail))); refine wpQuiet_nil ?_; intro y; go_wp2; (try go_ret2); exact uh FN _ _ _ rfl (IfV.of (by first | exact .inl rfl | exact .inr ⟨_, _, rfl⟩) (fun h => by first | rfl | cases h)) (uh HB _))
 ·
  have g3 : decide (0 ≤ n) = false := decide_eq_false g1
  have e : inB n 0 9 = false := by unfold inB; simp <;> omega
  have V := hide (show hereV 11 n ⟨#[]⟩ 0 = false by simp [hereV, Ex.here, eqE, eqE1, e])
  have FN := hide (fun r w' (v : Value) => nil_val (r := r) (w := w) (w' := w') (v := v) (uh V))
  generalize LeafR 11 n ⟨#[]⟩ w = R at *
  clear e
  (go_enter Tryd.func61, Tryd.ntmps61; go_wp2_with fail; refine wp_region_sub (⟨W, Below.refl _ _⟩ : Sub W.heap.size W) (by kernel_rfl) (by kernel_rfl) ?_; (repeat (go_big_quiet_step (first | fail))); refine wpQuiet_nil ?_; intro y; go_wp2; (try go_ret2); exact uh FN _ _ _ rfl (IfV.of (by first | exact .inl rfl | exact .inr ⟨_, _, rfl⟩) (fun h => by first | rfl | cases h)) (uh HB _))
theorem leaf_no (k n : Int) (s : ByteArray) (h1 : k ≠ 1) (h2 : k ≠ 2) (h3 : k ≠ 3) (h11 : k ≠ 11) (h12 : k ≠ 12) : LeafG k n s := by
 intro b ll cap w ht
 obtain ⟨W, hW⟩ : ∃ W, w.alloc (.cells #[.int .i64 k, .int .i64 n, .string s, .slice b ll cap] 43) = W := ⟨_, rfl⟩
 have B0 := hide (below_new w (.cells #[.int .i64 k, .int .i64 n, .string s, .slice b ll cap] 43))
 have hg : W.heap[w.heap.size]? = some (.cells #[.int .i64 k, .int .i64 n, .string s, .slice b ll cap] 43 (0, 0)) := by rw [← hW]; exact Array.getElem?_push_size
 rw [hW] at B0
 have x0 := Lib.cell_of_heap hg 0
 have x1 := Lib.cell_of_heap hg 1
 have x2 := Lib.cell_of_heap hg 2
 have xl : w.heap.size < W.heap.size := (Array.getElem?_eq_some_iff.1 hg).1
 have y0 : ∀ y : Sub W.heap.size W, y.w.cell? ⟨w.heap.size, 0, none⟩ = some (.int .i64 k) := fun y => (y.h.cell (p := ⟨w.heap.size, _, none⟩) xl).trans x0
 have y1 : ∀ y : Sub W.heap.size W, y.w.cell? ⟨w.heap.size, 1, none⟩ = some (.int .i64 n) := fun y => (y.h.cell (p := ⟨w.heap.size, _, none⟩) xl).trans x1
 have y2 : ∀ y : Sub W.heap.size W, y.w.cell? ⟨w.heap.size, 2, none⟩ = some (.string s) := fun y => (y.h.cell (p := ⟨w.heap.size, _, none⟩) xl).trans x2
 have ne := Sub.ne W.heap.size W
 have HZ := hide (Nat.le_refl W.heap.size)
 have TB := hide (fun y : Sub W.heap.size W => (ht.next (uh B0)).next y.h)
 have HB := hide (fun y : Sub W.heap.size W => (uh B0).trans (y.h.mono (uh B0).size))
 clear hg xl ht
 have g1 : (k == 1) = false := beq_eq_false_iff_ne.2 h1
 have g2 : (k == 2) = false := beq_eq_false_iff_ne.2 h2
 have g3 : (k == 3) = false := beq_eq_false_iff_ne.2 h3
 have g11 : (k == 11) = false := beq_eq_false_iff_ne.2 h11
 have g12 : (k == 12) = false := beq_eq_false_iff_ne.2 h12
 have V := hide (show hereV k n s 0 = false by unfold hereV Ex.here; simp only [List.length_replicate]; split; rfl; rw [if_neg (by omega)]; (repeat' (first | rfl | split)); all_goals first | rfl | omega)
 have FN := hide (fun r w' (v : Value) => nil_val (r := r) (w := w) (w' := w') (v := v) (uh V))
 generalize LeafR k n s w = R at *
 (go_enter Tryd.func61, Tryd.ntmps61; go_wp2; (try go_ret2); exact uh FN _ _ _ rfl (IfV.of (by first | exact .inl rfl | exact .inr ⟨_, _, rfl⟩) (fun h => by cases h)) (uh B0))
theorem leaf_any (k n : Int) (s : ByteArray) (b : Option Addr) (ll cap : Nat) (w : World) (hs : s.size ≤ 1099511627776) (ht : TabK w) : Calls Tryd.prog 61 #[.agg #[.int .i64 k, .int .i64 n, .string s, .slice b ll cap]] w (LeafR k n s w) := by
 revert b ll cap w
 show ∀ b ll cap w, TabK w → _
 by_cases c1 : k = 1
 ·
  subst c1
  by_cases h : s = E0
  · subst h; exact leaf1_0 n E0
  · exact leaf1_s n s h
 by_cases c2 : k = 2
 ·
  subst c2
  by_cases h : n = 0
  · subst h; exact leaf2_0 0 s hs
  · exact leaf2_n n s h hs
 by_cases c12 : k = 12
 ·
  subst c12
  by_cases h : n = 0
  · subst h; exact leaf12_0 0 s hs
  · exact leaf12_n n s h hs
 by_cases c3 : k = 3
 ·
  subst c3
  by_cases h : n = 0
  ·
   subst h
   by_cases h : s = E0
   · subst h; exact leaf3_0 0 E0
   · exact leaf3_s 0 s h
  · exact leaf3_n n s h
 by_cases c11 : k = 11
 ·
  subst c11
  by_cases h : s = E0
  · subst h; exact leaf11_0 n E0
  · exact leaf11_s n s h
 exact leaf_no k n s c1 c2 c3 c11 c12
def lessX (left : Int) (z : Nat) : Int := if left - (z : Int) < 0 then -1 else left - (z : Int)
def SzP (e : Ex) : Prop := ∀ (b : Option Addr) (cap : Nat) (left : Int) (w : World), RdX w 0 e b → Fit e → 0 ≤ left → left ≤ 1048576 → Calls Tryd.prog 36 #[.agg (e.cs b cap), .int .i64 left] w fun r w' => r = .returned (.int .i64 (lessX left e.sz)) ∧ Below w.heap.size w w'
theorem szXS_of (e : Ex) (ih : ∀ i, i < e.l.length → SzP (xAt e.l i)) (b : Option Addr) (cap : Nat) (left : Int) (w : World) (hr : RdX w 0 e b) (hf : Fit e) (h0 : 0 ≤ left) (h1 : left ≤ 1048576) : Calls Tryd.prog 35 #[.slice b e.l.length cap, .int .i64 left] w fun r w' => r = .returned (.int .i64 (lessX left (e.l.length + szX e.l))) ∧ Below w.heap.size w w' := by
 obtain ⟨_, hm, hfi⟩ := (Fit_eq e).1 hf
 rw [RdX_eq] at hr
 generalize e.l = l at *
 clear hf
 obtain ⟨len, hl⟩ : ∃ len, l.length = len := ⟨_, rfl⟩
 rw [hl] at hm ih hfi hr ⊢
 by_cases hbig : left - (len : Int) < 0
 ·
  have E := hide (show lessX left (len + szX l) = -1 by unfold lessX; rw [if_pos (by omega)])
  rw [uh E]
  go_enter Tryd.func35, Tryd.ntmps35
  go_wp2
  go_ret
  exact ⟨rfl, Below.refl _ _⟩
 ·
  obtain ⟨T, hT⟩ : ∃ T, lessX left (len + szX l) = T := ⟨_, rfl⟩
  have HT := hide hT
  rw [hT]
  clear hT
  go_enter Tryd.func35, Tryd.ntmps35
  go_wp2
  go_loopw [1, 5] (fun lv i wr => ∃ k : Nat, k ≤ len ∧ i = .int .i64 k ∧ 0 ≤ left - (len : Int) - (szX (l.take k) : Int) ∧ lv = .int .i64 (left - len - szX (l.take k)) ∧ Below w.heap.size w wr) (fun _ i _ => len - (intOf i).toNat)
  case atStart => exact ⟨0, Nat.zero_le _, rfl, by simp [szX]; omega, by simp [szX], Below.refl _ _⟩
  case round =>
   obtain ⟨k, hk, rfl, hs, rfl, hb⟩ := hrel
   by_cases hlt : k < len
   ·
    rcases hr with h00 | ⟨b, off, rfl, _, hbl, hc⟩
    · rw [h00] at hl; simp at hl; omega
    obtain ⟨c0, c1, c2, c, cap', c3, c4⟩ := hc k (by omega)
    have d0 : wr.cell? ⟨b, off + k * 4, none⟩ = _ := (hb.cell (p := ⟨b, _, none⟩) hbl).trans c0
    have d1 : wr.cell? ⟨b, off + k * 4 + 1, none⟩ = _ := (hb.cell (p := ⟨b, _, none⟩) hbl).trans c1
    have d2 : wr.cell? ⟨b, off + k * 4 + 2, none⟩ = _ := (hb.cell (p := ⟨b, _, none⟩) hbl).trans c2
    have d3 : wr.cell? ⟨b, off + k * 4 + 3, none⟩ = _ := (hb.cell (p := ⟨b, _, none⟩) hbl).trans c3
    have HS := hide (ih k hlt c cap' (left - len - szX (l.take k)) wr (c4.later hb) (hfi k hlt) hs (by omega))
    have ST := hide (szX_take l k (by omega))
    have SL := hide (szX_le l (k + 1))
    clear c0 c1 c2 c3 c4 hc
    unfold Ex.cs at HS
    generalize hzs : (xAt l k).sz = z at HS ST
    generalize (xAt l k).s = ss at d2 HS
    generalize (xAt l k).k = kk at d0 HS
    generalize (xAt l k).n = nn at d1 HS
    generalize (xAt l k).l.length = ll at d3 HS
    by_cases hneg : left - (len : Int) - (szX (l.take k) : Int) - (z : Int) < 0
    ·
     have E := hide (show T = -1 by rw [← uh HT]; unfold lessX; rw [if_pos]; have := uh ST; have := uh SL; omega)
     have E2 : lessX (left - (len : Int) - (szX (l.take k) : Int)) z = -1 := by unfold lessX; rw [if_pos hneg]
     rw [E2] at HS
     go_wp2_with (go_at_call 36; refine (uh HS).mono ?_; rintro e w1 ⟨rfl, hb1⟩)
     go_ret
     exact ⟨by rw [uh E]; rfl, hb.trans (hb1.mono hb.size)⟩
    ·
     have E2 : lessX (left - (len : Int) - (szX (l.take k) : Int)) z = left - (len : Int) - (szX (l.take k) : Int) - (z : Int) := by unfold lessX; rw [if_neg hneg]
     rw [E2] at HS
     go_wp2_with (go_at_call 36; refine (uh HS).mono ?_; rintro e w1 ⟨rfl, hb1⟩)
     go_roundw
     case rel =>
      refine ⟨k + 1, by omega, by go_num, ?_, ?_, hb.trans (hb1.mono hb.size)⟩
      · rw [uh ST]; omega
      · rw [uh ST]; congr 1; omega
     case measure => simp [intOf]; omega
   ·
    obtain rfl : k = len := by omega
    have E := hide (show l.take k = l by rw [← hl, List.take_length])
    rw [uh E] at hs
    have E2 := hide (show T = left - (k : Int) - (szX (l.take k) : Int) by rw [← uh HT]; unfold lessX; rw [uh E, if_neg (by omega)]; omega)
    go_wp2
    go_ret
    exact ⟨by rw [uh E2]; rfl, hb⟩
theorem szX_any (e : Ex) : SzP e := by
 induction e using Ex.ind with
 | h k n s l ih =>
  intro b cap left w hr hf h0 h1
  have hs := ((Fit_eq _).1 hf).1
  have HZ := hide (fun (w1 : World) (hb : Below w.heap.size w w1) (lv : Int) (h2 : 0 ≤ lv) (h3 : lv ≤ 1048576) => szXS_of ⟨k, n, s, l⟩ (fun i hi => ih _ (xAt_mem hi)) b cap lv w1 (hr.later hb) hf h2 h3)
  have SZ := hide (sz_is ⟨k, n, s, l⟩)
  have e1 : (Ex.mk k n s l).s = s := rfl
  have e2 : (Ex.mk k n s l).l = l := rfl
  rw [e1] at hs
  rw [e1, e2] at SZ
  rw [e2] at HZ
  unfold Ex.cs
  simp only
  rw [uh SZ]
  clear hr hf ih SZ e1 e2
  generalize hll : l.length = ll at *
  generalize szX l = zz at *
  have hbW : Below w.heap.size w (w.alloc (.cells #[.int .i64 k, .int .i64 n, .string s, .slice b ll cap] 57)) := (Below.refl _ _).alloc (Nat.le_refl _) _
  have HB := hide hbW
  by_cases hneg : left - (s.size : Int) < 0
  ·
   have E := hide (show lessX left (s.size + ll + zz) = -1 by unfold lessX; rw [if_pos (by omega)])
   rw [uh E]
   clear HZ hbW
   go_enter Tryd.func36, Tryd.ntmps36
   go_wp2
   go_ret
   exact ⟨rfl, uh HB⟩
  ·
   have HS := hide (uh HZ _ hbW (left - s.size) (by omega) (by omega))
   by_cases hneg2 : left - (s.size : Int) - ((ll + zz : Nat) : Int) < 0
   ·
    have E := hide (show lessX left (s.size + ll + zz) = -1 by unfold lessX; rw [if_pos (by omega)])
    have E2 : lessX (left - s.size) (ll + zz) = -1 := by unfold lessX; rw [if_pos (by omega)]
    rw [E2] at HS
    rw [uh E]
    clear HZ hbW
    go_enter Tryd.func36, Tryd.ntmps36
    go_wp2_with (go_at_call 35; refine (uh HS).mono ?_; rintro e w1 ⟨rfl, hb1⟩)
    go_ret
    exact ⟨rfl, (uh HB).trans (hb1.mono (uh HB).size)⟩
   ·
    have E := hide (show lessX left (s.size + ll + zz) = left - (s.size : Int) - ((ll + zz : Nat) : Int) by unfold lessX; rw [if_neg (by omega)]; omega)
    have E2 : lessX (left - s.size) (ll + zz) = left - (s.size : Int) - ((ll + zz : Nat) : Int) := by unfold lessX; rw [if_neg (by omega)]
    rw [E2] at HS
    rw [uh E]
    have hp : 0 ≤ left - (s.size : Int) - ((ll + zz : Nat) : Int) := by omega
    clear HZ hbW
    generalize left - (s.size : Int) - ((ll + zz : Nat) : Int) = rest at *
    go_enter Tryd.func36, Tryd.ntmps36
    go_wp2_with (go_at_call 35; refine (uh HS).mono ?_; rintro e w1 ⟨rfl, hb1⟩)
    go_ret
    exact ⟨rfl, (uh HB).trans (hb1.mono (uh HB).size)⟩
section
def OwX (w : World) : Ex → Option Addr → List Nat → Prop
 | ⟨_, _, _, l⟩, a, F => (l = [] ∧ F = []) ∨ ∃ (b : Nat) (cs : Array Value) (t : TypeId) (Fs : List (List Nat)), a = some ⟨b, 0, none⟩ ∧ w.heap[b]? = some (.cells cs t (0, 0)) ∧ l.length * 4 ≤ cs.size ∧ Fs.length = l.length ∧ F = b :: Fs.flatten ∧ ∀ x ∈ l, ∀ i, l[i]? = some x → cs[i * 4]? = some (.int .i64 x.k) ∧ cs[i * 4 + 1]? = some (.int .i64 x.n) ∧ cs[i * 4 + 2]? = some (.string x.s) ∧ ∃ c cap, cs[i * 4 + 3]? = some (.slice c x.l.length cap) ∧ OwX w x c (Fs.getD i [])
def OwOne (w : World) (cs : Array Value) (i : Nat) (x : Ex) (F : List Nat) : Prop := cs[i * 4]? = some (.int .i64 x.k) ∧ cs[i * 4 + 1]? = some (.int .i64 x.n) ∧ cs[i * 4 + 2]? = some (.string x.s) ∧ ∃ c cap, cs[i * 4 + 3]? = some (.slice c x.l.length cap) ∧ OwX w x c F
theorem OwX_eq (w : World) (e : Ex) (a : Option Addr) (F : List Nat) : OwX w e a F ↔ ((e.l = [] ∧ F = []) ∨ ∃ (b : Nat) (cs : Array Value) (t : TypeId) (Fs : List (List Nat)), a = some ⟨b, 0, none⟩ ∧ w.heap[b]? = some (.cells cs t (0, 0)) ∧ e.l.length * 4 ≤ cs.size ∧ Fs.length = e.l.length ∧ F = b :: Fs.flatten ∧ ∀ i, i < e.l.length → OwOne w cs i (xAt e.l i) (Fs.getD i [])) := by
 obtain ⟨k, n, s, l⟩ := e
 rw [OwX]
 refine or_congr Iff.rfl (exists_congr fun b => exists_congr fun cs => exists_congr fun t => exists_congr fun Fs => and_congr Iff.rfl (and_congr Iff.rfl (and_congr Iff.rfl (and_congr Iff.rfl (and_congr Iff.rfl ⟨fun h i hi => ?_, fun h x hx i hi => ?_⟩)))))
 · exact h _ (xAt_mem hi) i (by rw [xAt_get hi]; exact List.getElem?_eq_getElem hi)
 ·
  obtain ⟨hl, e⟩ := List.getElem?_eq_some_iff.1 hi
  have := h i hl
  rw [xAt_get hl, e] at this
  exact this
theorem getD_flat {Fs : List (List Nat)} {i : Nat} {b : Nat} (h : b ∈ Fs.getD i []) : b ∈ Fs.flatten := by
 rw [List.getD_eq_getElem?_getD] at h
 by_cases hi : i < Fs.length
 ·
  rw [List.getElem?_eq_getElem hi] at h
  exact List.mem_flatten.2 ⟨_, List.getElem_mem hi, h⟩
 ·
  rw [List.getElem?_eq_none (by omega)] at h
  cases h
theorem OwX.keep {w w' : World} (e : Ex) : ∀ a F, (∀ b ∈ F, w'.heap[b]? = w.heap[b]?) → OwX w e a F → OwX w' e a F := by
 induction e using Ex.ind with
 | h k n s l ih =>
  intro a F hk h
  rw [OwX_eq] at h ⊢
  rcases h with h | ⟨b, cs, t, Fs, ha, hh, hz, hF, rfl, h3⟩
  · exact .inl h
  ·
   refine .inr ⟨b, cs, t, Fs, ha, (hk b List.mem_cons_self).trans hh, hz, hF, rfl, fun i hi => ?_⟩
   obtain ⟨c1, c2, c3, c, cap, c4, c5⟩ := h3 i hi
   exact ⟨c1, c2, c3, c, cap, c4, ih _ (xAt_mem hi) _ _ (fun b hb => hk b (List.mem_cons_of_mem _ (getD_flat hb))) c5⟩
theorem OwX.lt {w : World} (e : Ex) : ∀ a F, OwX w e a F → ∀ b ∈ F, b < w.heap.size := by
 induction e using Ex.ind with
 | h k n s l ih =>
  intro a F h
  rw [OwX_eq] at h
  rcases h with ⟨_, rfl⟩ | ⟨b, cs, t, Fs, ha, hh, hz, hF, rfl, h3⟩
  · intro b hb; cases hb
  ·
   intro x hx
   rcases List.mem_cons.1 hx with rfl | hx
   · exact (Array.getElem?_eq_some_iff.1 hh).1
   ·
    obtain ⟨G, hG, hx⟩ := List.mem_flatten.1 hx
    obtain ⟨i, hi, rfl⟩ := List.getElem_of_mem hG
    have hi2 : i < l.length := hF ▸ hi
    obtain ⟨c1, c2, c3, c, cap, c4, c5⟩ := h3 i hi2
    rw [List.getD_eq_getElem?_getD, List.getElem?_eq_getElem hi] at c5
    exact ih _ (xAt_mem hi2) _ _ c5 _ hx
theorem OwX.later {w w' : World} {e : Ex} {a : Option Addr} {F : List Nat} (h : OwX w e a F) (hb : Below w.heap.size w w') : OwX w' e a F :=
 OwX.keep e a F (fun b hF => hb.block b (OwX.lt e a F h b hF)) h
theorem OwX.rd {w : World} {B : Nat} (e : Ex) : ∀ a F, (∀ b ∈ F, B ≤ b) → OwX w e a F → RdX w B e a := by
 induction e using Ex.ind with
 | h k n s l ih =>
  intro a F hB h
  rw [OwX_eq] at h
  rw [RdX_eq]
  rcases h with h | ⟨b, cs, t, Fs, ha, hh, hz, hF, rfl, h3⟩
  · exact .inl h.1
  ·
   refine .inr ⟨b, 0, ha, hB b List.mem_cons_self, (Array.getElem?_eq_some_iff.1 hh).1, fun i hi => ?_⟩
   obtain ⟨c1, c2, c3, c, cap, c4, c5⟩ := h3 i hi
   unfold OneX
   simp only [Nat.zero_add]
   exact ⟨(Lib.cell_of_heap hh _).trans c1, (Lib.cell_of_heap hh _).trans c2, (Lib.cell_of_heap hh _).trans c3, c, cap, (Lib.cell_of_heap hh _).trans c4, ih _ (xAt_mem hi) _ _ (fun b hb => hB b (List.mem_cons_of_mem _ (getD_flat hb))) c5⟩
def NewX (w : World) (B : Nat) (e : Ex) (a : Option Addr) : Prop := ∃ F, OwX w e a F ∧ F.Nodup ∧ ∀ b ∈ F, B ≤ b
section
variable {w w' : World} {B C : Nat} {e : Ex} {a : Option Addr}
theorem NewX.lower (h : NewX w B e a) (hC : C ≤ B) : NewX w C e a := by obtain ⟨F, h1, h2, h3⟩ := h; exact ⟨F, h1, h2, fun b hb => Nat.le_trans hC (h3 b hb)⟩
theorem NewX.far (h : NewX w B e a) (p : Addr) (v : Value) (hp : p.block < B) : NewX (w.setCell p v) B e a := by
 obtain ⟨F, h1, h2, h3⟩ := h
 exact ⟨F, OwX.keep e a F (fun b hb => heap_setCell_other w p b v (by have := h3 b hb; omega)) h1, h2, h3⟩
theorem NewX.nil (w : World) (B : Nat) (k n : Int) (s : ByteArray) (a : Option Addr) : NewX w B ⟨k, n, s, []⟩ a := ⟨[], (OwX_eq _ _ _ _).2 (.inl ⟨rfl, rfl⟩), List.nodup_nil, fun b hb => by cases hb⟩
end
end
theorem infoX : (Tryd.prog.info? 43).map (fun i => (i.zero, i.size, i.bytes)) = some (some (.agg #[.int .i64 0, .int .i64 0, .string ⟨#[]⟩, .slice none 0 0]), 4, 56) := by kernel_rfl
theorem sz_part {l : List Ex} {i : Nat} (h : i < l.length) : (xAt l i).sz ≤ szX l := by
 have h1 := szX_take l i h
 have h2 := szX_le l (i + 1)
 omega
def OwIn (w : World) (cs : List Value) (i : Nat) (x : Ex) (F : List Nat) : Prop := cs[i * 4]? = some (.int .i64 x.k) ∧ cs[i * 4 + 1]? = some (.int .i64 x.n) ∧ cs[i * 4 + 2]? = some (.string x.s) ∧ ∃ c cap, cs[i * 4 + 3]? = some (.slice c x.l.length cap) ∧ OwX w x c F
theorem OwIn.keep {w w' : World} {cs : List Value} {i : Nat} {x : Ex} {F : List Nat} (h : OwIn w cs i x F) (hk : ∀ b ∈ F, w'.heap[b]? = w.heap[b]?) : OwIn w' cs i x F := by
 obtain ⟨h0, h1, h2, c, cap, h3, h4⟩ := h
 exact ⟨h0, h1, h2, c, cap, h3, OwX.keep _ _ _ hk h4⟩
theorem ownsRow_heap {w : World} {B g n cap size : Nat} {t : TypeId} {cs : List Value} (h : w.ownsRow B t size (.slice (some ⟨g, 0, none⟩) n cap) n cs) : ∃ cur : Array Value, w.heap[g]? = some (.cells cur t (0, 0)) ∧ n * size ≤ cur.size ∧ ∀ j, j < n * size → cur[j]? = cs[j]? := by
 obtain ⟨h1, ⟨e, _⟩ | ⟨g', cap', cur, e, hg, hh, hn, hm, hz, ht⟩⟩ := h
 · cases e
 ·
  cases e
  refine ⟨cur, hh, by rw [hz]; exact Nat.mul_le_mul_right _ hn, fun j hj => ?_⟩
  rw [← ht, List.getElem?_take, if_pos hj, Array.getElem?_toList]
def DoneX (w : World) (g : Nat) (l : List Ex) (n cap k M : Nat) : Prop := ∃ (cs : List Value) (Fs : List (List Nat)), w.ownsRow g 43 4 (.slice (some ⟨g, 0, none⟩) n cap) n cs ∧ Fs.length = k ∧ Fs.flatten.Nodup ∧ (∀ b ∈ Fs.flatten, g < b ∧ b < M) ∧ ∀ i, i < k → OwIn w cs i (xAt l i) (Fs.getD i [])
theorem ownsRow_later {w w' : World} {B g n cap m : Nat} {t : TypeId} {cs : List Value} (h : w.ownsRow B t m (.slice (some ⟨g, 0, none⟩) n cap) n cs) (hb : Below w.heap.size w w') : w'.ownsRow B t m (.slice (some ⟨g, 0, none⟩) n cap) n cs := by
 obtain ⟨h1, h2 | ⟨g, cap, cur, e, hg, hh, r⟩⟩ := h
 · exact ⟨h1, .inl h2⟩
 · exact ⟨h1, .inr ⟨g, cap, cur, e, hg, (hb.block g (Array.getElem?_eq_some_iff.1 hh).1).trans hh, r⟩⟩
theorem OwIn.lt {w : World} {cs : List Value} {i : Nat} {x : Ex} {F : List Nat} (h : OwIn w cs i x F) : ∀ b ∈ F, b < w.heap.size := by
 obtain ⟨_, _, _, c, cap, _, h⟩ := h
 exact OwX.lt _ _ _ h
theorem DoneX.later {w w' : World} {g n cap k M : Nat} {l : List Ex} (h : DoneX w g l n cap k M) (hb : Below w.heap.size w w') : DoneX w' g l n cap k M := by
 obtain ⟨cs, Fs, h1, h2, h3, h4, h5⟩ := h
 exact ⟨cs, Fs, ownsRow_later h1 hb, h2, h3, h4, fun i hi => (h5 i hi).keep fun b hF => hb.block b ((h5 i hi).lt b hF)⟩
theorem flat_snoc (Fs : List (List Nat)) (F : List Nat) : (Fs ++ [F]).flatten = Fs.flatten ++ F := by simp
theorem getD_snoc_lt {Fs : List (List Nat)} {F : List Nat} {i : Nat} (h : i < Fs.length) : (Fs ++ [F]).getD i [] = Fs.getD i [] := by
 rw [List.getD_eq_getElem?_getD, List.getD_eq_getElem?_getD, List.getElem?_append_left h]
theorem getD_snoc_eq {Fs : List (List Nat)} {F : List Nat} {i : Nat} (h : i = Fs.length) : (Fs ++ [F]).getD i [] = F := by
 rw [List.getD_eq_getElem?_getD, h, List.getElem?_append_right (Nat.le_refl _)]
 simp
theorem nodup_snoc {a b : List Nat} {M : Nat} (ha : a.Nodup) (hb : b.Nodup) (h1 : ∀ x ∈ a, x < M) (h2 : ∀ x ∈ b, M ≤ x) : (a ++ b).Nodup := by
 rw [List.nodup_append]
 exact ⟨ha, hb, fun x hx y hy e => by have := h1 x hx; have := h2 y hy; omega⟩
theorem DoneX.put {w : World} {g n cap k M M' : Nat} {l : List Ex} (h : DoneX w g l n cap k M) (hk : k < n) (hg : g < M) (hM : M ≤ M') (c : Option Addr) (cp : Nat) (hr : NewX w M (xAt l k) c) (hz : w.heap.size ≤ M') :
  DoneX ((((w.setCell ⟨g, k * 4, none⟩ (.int .i64 (xAt l k).k)).setCell ⟨g, k * 4 + 1, none⟩ (.int .i64 (xAt l k).n)).setCell ⟨g, k * 4 + 2, none⟩ (.string (xAt l k).s)).setCell ⟨g, k * 4 + 3, none⟩ (.slice c (xAt l k).l.length cp)) g l n cap (k + 1) M' := by
 obtain ⟨cs, Fs, h1, h2, h3, h4, h5⟩ := h
 obtain ⟨F, q1, q2, q3⟩ := hr
 have hlen : cs.length = n * 4 := h1.1
 have s1 := (World.ownsRow.stored h1 (k * 4) (.int .i64 (xAt l k).k)).1
 have s2 := (World.ownsRow.stored s1 (k * 4 + 1) (.int .i64 (xAt l k).n)).1
 have s3 := (World.ownsRow.stored s2 (k * 4 + 2) (.string (xAt l k).s)).1
 have s4 := (World.ownsRow.stored s3 (k * 4 + 3) (.slice c (xAt l k).l.length cp)).1
 have hkeep : ∀ b, g < b → ((((w.setCell ⟨g, k * 4, none⟩ (.int .i64 (xAt l k).k)).setCell ⟨g, k * 4 + 1, none⟩ (.int .i64 (xAt l k).n)).setCell ⟨g, k * 4 + 2, none⟩ (.string (xAt l k).s)).setCell ⟨g, k * 4 + 3, none⟩ (.slice c (xAt l k).l.length cp)).heap[b]? = w.heap[b]? := fun b hb => by
  rw [heap_setCell_other _ _ _ _ (by show b ≠ g; omega), heap_setCell_other _ _ _ _ (by show b ≠ g; omega), heap_setCell_other _ _ _ _ (by show b ≠ g; omega), heap_setCell_other _ _ _ _ (by show b ≠ g; omega)]
 refine ⟨_, Fs ++ [F], s4, by simp [h2], ?_, ?_, fun i hi => ?_⟩
 ·
  rw [flat_snoc]
  exact nodup_snoc h3 q2 (fun x hx => (h4 x hx).2) q3
 ·
  rw [flat_snoc]
  intro b hb
  rcases List.mem_append.1 hb with hb | hb
  · have := h4 b hb; exact ⟨this.1, by omega⟩
  ·
   have := q3 b hb
   have := OwX.lt _ _ _ q1 b hb
   exact ⟨by omega, by omega⟩
 ·
  by_cases hik : i = k
  ·
   subst hik
   rw [getD_snoc_eq h2.symm]
   refine ⟨?_, ?_, ?_, c, cp, ?_, OwX.keep _ _ _ (fun b hb => hkeep b (by have := q3 b hb; omega)) q1⟩
   · rw [List.getElem?_set_ne (by omega), List.getElem?_set_ne (by omega), List.getElem?_set_ne (by omega), List.getElem?_set_self (by omega)]
   · rw [List.getElem?_set_ne (by omega), List.getElem?_set_ne (by omega), List.getElem?_set_self (by simp; omega)]
   · rw [List.getElem?_set_ne (by omega), List.getElem?_set_self (by simp; omega)]
   · rw [List.getElem?_set_self (by simp; omega)]
  ·
   rw [getD_snoc_lt (by omega)]
   obtain ⟨p0, p1, p2, c', cap', p3, p4⟩ := (h5 i (by omega)).keep (w' := ((((w.setCell ⟨g, k * 4, none⟩ (.int .i64 (xAt l k).k)).setCell ⟨g, k * 4 + 1, none⟩ (.int .i64 (xAt l k).n)).setCell ⟨g, k * 4 + 2, none⟩ (.string (xAt l k).s)).setCell ⟨g, k * 4 + 3, none⟩ (.slice c (xAt l k).l.length cp))) (fun b hb => hkeep b (h4 b (getD_flat hb)).1)
   refine ⟨?_, ?_, ?_, c', cap', ?_, p4⟩
   · rw [List.getElem?_set_ne (by omega), List.getElem?_set_ne (by omega), List.getElem?_set_ne (by omega), List.getElem?_set_ne (by omega)]; exact p0
   · rw [List.getElem?_set_ne (by omega), List.getElem?_set_ne (by omega), List.getElem?_set_ne (by omega), List.getElem?_set_ne (by omega)]; exact p1
   · rw [List.getElem?_set_ne (by omega), List.getElem?_set_ne (by omega), List.getElem?_set_ne (by omega), List.getElem?_set_ne (by omega)]; exact p2
   · rw [List.getElem?_set_ne (by omega), List.getElem?_set_ne (by omega), List.getElem?_set_ne (by omega), List.getElem?_set_ne (by omega)]; exact p3
theorem DoneX.new {w : World} {g cap M : Nat} {e : Ex} (h : DoneX w g e.l e.l.length cap e.l.length M) : NewX w g e (some ⟨g, 0, none⟩) := by
 obtain ⟨cs, Fs, h1, h2, h3, h4, h5⟩ := h
 by_cases h0 : e.l.length = 0
 ·
  obtain ⟨k, n, s, l⟩ := e
  obtain rfl : l = [] := List.length_eq_zero_iff.1 h0
  exact NewX.nil ..
 ·
  obtain ⟨cur, hh, hz, hc⟩ := ownsRow_heap h1
  refine ⟨g :: Fs.flatten, (OwX_eq _ _ _ _).2 (.inr ⟨g, cur, 43, Fs, rfl, hh, hz, h2, rfl, fun i hi => ?_⟩), ?_, ?_⟩
  ·
   obtain ⟨p0, p1, p2, c, cp, p3, p4⟩ := h5 i hi
   exact ⟨(hc _ (by omega)).trans p0, (hc _ (by omega)).trans p1, (hc _ (by omega)).trans p2, c, cp, (hc _ (by omega)).trans p3, p4⟩
  · exact List.nodup_cons.2 ⟨fun hb => by have := (h4 g hb).1; omega, h3⟩
  ·
   intro b hb
   rcases List.mem_cons.1 hb with rfl | hb
   · exact Nat.le_refl _
   · exact Nat.le_of_lt (h4 b hb).1
def ToP (e : Ex) : Prop := ∀ (b : Option Addr) (cap : Nat) (w : World), RdX w 0 e b → e.sz ≤ 1048576 → Calls Tryd.prog 44 #[.agg (e.cs b cap)] w fun r w' => ∃ (c : Option Addr) (cap' : Nat), r = .returned (.agg (e.cs c cap')) ∧ NewX w' w.heap.size e c ∧ Below w.heap.size w w'
theorem box4 (w : World) (e : Ex) (b : Option Addr) (cap : Nat) (ty : TypeId) : (w.alloc (.cells (e.cs b cap) ty)).cell? ⟨w.heap.size, 0, none⟩ = some (.int .i64 e.k) ∧ (w.alloc (.cells (e.cs b cap) ty)).cell? ⟨w.heap.size, 1, none⟩ = some (.int .i64 e.n) ∧ (w.alloc (.cells (e.cs b cap) ty)).cell? ⟨w.heap.size, 2, none⟩ = some (.string e.s) ∧ (w.alloc (.cells (e.cs b cap) ty)).cell? ⟨w.heap.size, 3, none⟩ = some (.slice b e.l.length cap) := by
 have h : (w.alloc (.cells (e.cs b cap) ty)).heap[w.heap.size]? = some (.cells (e.cs b cap) ty (0, 0)) := Array.getElem?_push_size
 exact ⟨Lib.cell_of_heap h 0, Lib.cell_of_heap h 1, Lib.cell_of_heap h 2, Lib.cell_of_heap h 3⟩
theorem all_take (l : List Ex) (f : Ex → Bool) (k : Nat) (h : k < l.length) : (l.take (k + 1)).all f = ((l.take k).all f && f (xAt l k)) := by
 rw [List.take_succ_eq_append_getElem h, List.all_append, xAt_get h]
 simp
theorem all_part {l : List Ex} {f : Ex → Bool} {k : Nat} (h : k < l.length) (hf : f (xAt l k) = false) : l.all f = false := by
 rw [List.all_eq_false]
 exact ⟨_, xAt_mem h, by rw [hf]; decide⟩
theorem okF_s (d : Nat) (p : Bool) (e : Ex) : okF (d + 1) p e = (e.here && (!(p && (e.k == 11 || e.k == 12)) && e.l.all (okF d p))) := rfl
theorem okS_all : ∀ d : Nat, d ≤ 6 → ∀ (e : Ex) (b : Option Addr) (cap : Nat) (p : Bool) (w : World), RdX w 0 e b → e.sz ≤ 1048576 → Calls Tryd.prog 40 #[.agg (e.cs b cap), .int .i64 (7 - (d : Int)), .bool p] w fun r w' => r = .returned (.bool (okF d p e)) ∧ Below w.heap.size w w' := by
 intro d
 induction d with
 | zero =>
  intro _ e b cap p w hr hz
  have B0 := hide (below_new w (.cells (e.cs b cap) 43))
  rw [show okF 0 p e = false from rfl]
  unfold Ex.cs at B0 ⊢
  go_enter Tryd.func40, Tryd.ntmps40
  go_wp2
  go_ret
  exact ⟨rfl, uh B0⟩
 | succ d ih =>
  intro hd e b cap p w hr hz
  have hsz := sz_is e
  rw [okF_s]
  have hbW := below_new w (.cells (e.cs b cap) 43)
  have B0 := hide hbW
  have HH := hereS_any e b cap (w.alloc (.cells (e.cs b cap) 43)) (by omega) (by omega)
  obtain ⟨x0, x1, x2, x3⟩ := box4 w e b cap 43
  have xl : w.heap.size < (w.alloc (.cells (e.cs b cap) 43)).heap.size := by simp
  have hrW := hr.later hbW
  rw [RdX_eq] at hrW
  have hp : ∀ i, i < e.l.length → (xAt e.l i).sz ≤ 1048576 := fun i hi => by have := sz_part hi; omega
  have hm : e.l.length ≤ 1048576 := by omega
  have ihd := ih (by omega)
  have hD : (7 : Int) - ((d + 1 : Nat) : Int) + 1 = 7 - (d : Int) := by omega
  have hD6 : ¬ (6 < (7 : Int) - ((d + 1 : Nat) : Int)) := by omega
  have hDb : -100 ≤ (7 : Int) - ((d + 1 : Nat) : Int) ∧ (7 : Int) - ((d + 1 : Nat) : Int) ≤ 100 := by omega
  generalize hDD : (7 : Int) - ((d + 1 : Nat) : Int) = DD at *
  clear hr hsz hz hbW ih hDD
  generalize e.here = hq at *
  unfold Ex.cs at B0 HH x0 x1 x2 x3 xl hrW ⊢
  generalize e.l = l at *
  generalize e.k = k at *
  generalize e.n = n at *
  generalize e.s = s at *
  obtain ⟨len, hl⟩ : ∃ len, l.length = len := ⟨_, rfl⟩
  rw [hl] at hm hp HH x0 x1 x2 x3 B0 xl hrW ⊢
  obtain ⟨W, hW⟩ : ∃ W, w.alloc (.cells #[.int .i64 k, .int .i64 n, .string s, .slice b len cap] 43) = W := ⟨_, rfl⟩
  rw [hW] at HH x0 x1 x2 x3 B0 xl hrW
  have HC := hide HH
  have E0 : ∀ y : Sub W.heap.size W, y.w.cell? ⟨w.heap.size, 0, none⟩ = _ := fun y => (y.h.cell (p := ⟨w.heap.size, _, none⟩) xl).trans x0
  have E3 : ∀ y : Sub W.heap.size W, y.w.cell? ⟨w.heap.size, 3, none⟩ = _ := fun y => (y.h.cell (p := ⟨w.heap.size, _, none⟩) xl).trans x3
  have ne := Sub.ne W.heap.size W
  have HZ := hide (Nat.le_refl W.heap.size)
  have HB := hide (fun y : Sub W.heap.size W => (uh B0).trans (y.h.mono (uh B0).size))
  clear HH xl
  obtain ⟨T, hT⟩ : ∃ T, (hq && (!(p && (k == 11 || k == 12)) && l.all (okF d p))) = T := ⟨_, rfl⟩
  have HT := hide hT
  rw [hT]
  clear hT
  go_enter Tryd.func40, Tryd.ntmps40
  go_wp2_with fail
  refine (Sub.call (x := ⟨W, Below.refl _ _⟩) (uh HZ) (uh HC)).mono ?_
  rintro r _ ⟨rfl, y, rfl⟩
  clear HC x0 x1 x2 x3
  cases hq with
  | false =>
   have EF := hide ((uh HT).symm.trans (Bool.false_and _))
   go_wp2
   go_ret
   exact ⟨by rw [uh EF]; rfl, uh HB _⟩
  | true =>
   by_cases hx : (p && (k == 11 || k == 12)) = true
   ·
    have EF := hide (show T = false by rw [← uh HT, hx]; rfl)
    have hpp : p = true := by cases p with | true => rfl | false => simp at hx
    subst hpp
    by_cases h11 : k = 11
    ·
     subst h11
     go_wp2
     go_ret
     exact ⟨by rw [uh EF]; rfl, uh HB _⟩
    ·
     have h12 : k = 12 := by simpa [h11] using hx
     subst h12
     go_wp2
     go_ret
     exact ⟨by rw [uh EF]; rfl, uh HB _⟩
   ·
    have hxf : (p && (k == 11 || k == 12)) = false := by simpa using hx
    rw [hxf] at HT
    have HT := hide (show l.all (okF d p) = T by rw [← uh HT]; simp)
    clear hxf
    cases p with
    | false =>
     clear hx
     go_wp2
     go_loopw [7] (fun i wr => ∃ (j : Nat) (z : Sub W.heap.size W), j ≤ len ∧ i = .int .i64 j ∧ (l.take j).all (okF d false) = true ∧ wr = z.w) (fun i _ => len - (intOf i).toNat)
     case atStart => exact ⟨0, y, Nat.zero_le _, rfl, rfl, rfl⟩
     case round =>
      obtain ⟨j, z, hj, rfl, hdone, rfl⟩ := hrel
      have HD := hide hdone
      clear hdone
      by_cases hlt : j < len
      ·
       rcases hrW with h0 | ⟨p1, po, hb1, _, hp1, hpc⟩
       · rw [h0] at hl; simp at hl; omega
       subst hb1
       obtain ⟨e0, e1, e2, pc, pp, e3, e4⟩ := hpc j (by omega)
       have d0 : ∀ y : Sub W.heap.size W, y.w.cell? ⟨p1, po + j * 4, none⟩ = _ := fun y => (y.h.cell (p := ⟨p1, _, none⟩) hp1).trans e0
       have d1 : ∀ y : Sub W.heap.size W, y.w.cell? ⟨p1, po + j * 4 + 1, none⟩ = _ := fun y => (y.h.cell (p := ⟨p1, _, none⟩) hp1).trans e1
       have d2 : ∀ y : Sub W.heap.size W, y.w.cell? ⟨p1, po + j * 4 + 2, none⟩ = _ := fun y => (y.h.cell (p := ⟨p1, _, none⟩) hp1).trans e2
       have d3 : ∀ y : Sub W.heap.size W, y.w.cell? ⟨p1, po + j * 4 + 3, none⟩ = _ := fun y => (y.h.cell (p := ⟨p1, _, none⟩) hp1).trans e3
       have HE := hide (fun y : Sub W.heap.size W => ihd (xAt l j) pc pp false y.w (e4.later y.h) (hp j hlt))
       have AT := hide (all_take l (okF d false) j (by omega))
       have AP := hide (fun h => all_part (f := okF d false) (show j < l.length by omega) h)
       clear e0 e1 e2 e3 e4 hpc ihd hp
       unfold Ex.cs at HE
       generalize okF d false (xAt l j) = q at *
       generalize (xAt l j).s = ss at *
       generalize (xAt l j).k = kk at *
       generalize (xAt l j).n = nn at *
       generalize (xAt l j).l.length = ll at *
       cases q with
       | false =>
        have EF := hide ((uh HT).symm.trans (uh AP rfl))
        go_wp2_with (go_at_call 40; refine (Sub.call (uh HZ) (uh HE _)).mono ?_; rintro r _ ⟨rfl, z2, rfl⟩)
        go_ret
        exact ⟨by rw [uh EF]; rfl, uh HB _⟩
       | true =>
        go_wp2_with (go_at_call 40; refine (Sub.call (uh HZ) (uh HE _)).mono ?_; rintro r _ ⟨rfl, z2, rfl⟩)
        go_roundw
        case rel => exact ⟨j + 1, z2, by omega, by go_num, by rw [uh AT, uh HD]; rfl, rfl⟩
        case measure => simp [intOf]; omega
      ·
       obtain rfl : j = len := by omega
       have EF := hide ((uh HT).symm.trans ((show l.all (okF d false) = (l.take j).all (okF d false) by rw [← hl, List.take_length]).trans (uh HD)))
       go_wp2
       go_ret
       exact ⟨by rw [uh EF]; rfl, uh HB _⟩
    | true =>
     have h11 : (k == 11) = false := by simp at hx; simp [hx.1]
     have h12 : (k == 12) = false := by simp at hx; simp [hx.2]
     clear hx
     go_wp2
     go_loopw [7] (fun i wr => ∃ (j : Nat) (z : Sub W.heap.size W), j ≤ len ∧ i = .int .i64 j ∧ (l.take j).all (okF d true) = true ∧ wr = z.w) (fun i _ => len - (intOf i).toNat)
     case atStart => exact ⟨0, y, Nat.zero_le _, rfl, rfl, rfl⟩
     case round =>
      obtain ⟨j, z, hj, rfl, hdone, rfl⟩ := hrel
      have HD := hide hdone
      clear hdone
      by_cases hlt : j < len
      ·
       rcases hrW with h0 | ⟨p1, po, hb1, _, hp1, hpc⟩
       · rw [h0] at hl; simp at hl; omega
       subst hb1
       obtain ⟨e0, e1, e2, pc, pp, e3, e4⟩ := hpc j (by omega)
       have d0 : ∀ y : Sub W.heap.size W, y.w.cell? ⟨p1, po + j * 4, none⟩ = _ := fun y => (y.h.cell (p := ⟨p1, _, none⟩) hp1).trans e0
       have d1 : ∀ y : Sub W.heap.size W, y.w.cell? ⟨p1, po + j * 4 + 1, none⟩ = _ := fun y => (y.h.cell (p := ⟨p1, _, none⟩) hp1).trans e1
       have d2 : ∀ y : Sub W.heap.size W, y.w.cell? ⟨p1, po + j * 4 + 2, none⟩ = _ := fun y => (y.h.cell (p := ⟨p1, _, none⟩) hp1).trans e2
       have d3 : ∀ y : Sub W.heap.size W, y.w.cell? ⟨p1, po + j * 4 + 3, none⟩ = _ := fun y => (y.h.cell (p := ⟨p1, _, none⟩) hp1).trans e3
       have HE := hide (fun y : Sub W.heap.size W => ihd (xAt l j) pc pp true y.w (e4.later y.h) (hp j hlt))
       have AT := hide (all_take l (okF d true) j (by omega))
       have AP := hide (fun h => all_part (f := okF d true) (show j < l.length by omega) h)
       clear e0 e1 e2 e3 e4 hpc ihd hp
       unfold Ex.cs at HE
       generalize okF d true (xAt l j) = q at *
       generalize (xAt l j).s = ss at *
       generalize (xAt l j).k = kk at *
       generalize (xAt l j).n = nn at *
       generalize (xAt l j).l.length = ll at *
       cases q with
       | false =>
        have EF := hide ((uh HT).symm.trans (uh AP rfl))
        go_wp2_with (go_at_call 40; refine (Sub.call (uh HZ) (uh HE _)).mono ?_; rintro r _ ⟨rfl, z2, rfl⟩)
        go_ret
        exact ⟨by rw [uh EF]; rfl, uh HB _⟩
       | true =>
        go_wp2_with (go_at_call 40; refine (Sub.call (uh HZ) (uh HE _)).mono ?_; rintro r _ ⟨rfl, z2, rfl⟩)
        go_roundw
        case rel => exact ⟨j + 1, z2, by omega, by go_num, by rw [uh AT, uh HD]; rfl, rfl⟩
        case measure => simp [intOf]; omega
      ·
       obtain rfl : j = len := by omega
       have EF := hide ((uh HT).symm.trans ((show l.all (okF d true) = (l.take j).all (okF d true) by rw [← hl, List.take_length]).trans (uh HD)))
       go_wp2
       go_ret
       exact ⟨by rw [uh EF]; rfl, uh HB _⟩
theorem okS_any (e : Ex) (b : Option Addr) (cap : Nat) (w : World) (hr : RdX w 0 e b) (hz : e.sz ≤ 1048576) : Calls Tryd.prog 24 #[.agg (e.cs b cap)] w fun r w' => r = .returned (.bool (okF 6 false e)) ∧ Below w.heap.size w w' := by
 have B0 := below_new w (.cells (e.cs b cap) 43)
 have H := (okS_all 6 (by omega) e b cap false _ (hr.later B0) hz).mono (R' := fun r w' => r = .returned (.bool (okF 6 false e)) ∧ Below w.heap.size w w') (fun r w' h => ⟨h.1, B0.trans (h.2.mono B0.size)⟩)
 rw [show (7 : Int) - ((6 : Nat) : Int) = 1 by omega] at H
 have HH := hide H
 clear H hr B0
 unfold Ex.cs at HH ⊢
 generalize okF 6 false e = q at *
 generalize e.l.length = ll at *
 go_enter Tryd.func24, Tryd.ntmps24
 go_wp2_with (go_at_call 40; refine (uh HH).mono ?_; rintro r w1 ⟨rfl, hb1⟩)
 go_ret
 exact ⟨rfl, hb1⟩
theorem pair_any (k : Int) (u v : Value) (w : World) : Calls Tryd.prog 62 #[.int .i64 k, .agg #[u, v]] w fun r w' => ∃ x, r = .returned (.tuple #[x, .bool (inB k 5 10)]) ∧ (IfV x ∧ (inB k 5 10 = true → x = .iface (pairT k) (.agg #[u, v]))) ∧ Below w.heap.size w w' := by
 have B0 := hide (below_new w (.cells #[u, v] 99))
 by_cases h5 : k = 5
 ·
  subst h5
  rw [show inB 5 5 10 = true by decide]
  go_enter Tryd.func62, Tryd.ntmps62
  go_wp2
  go_ret2
  exact ⟨_, rfl, IfV.of (.inr ⟨_, _, rfl⟩) (fun _ => rfl), uh B0⟩
 by_cases h6 : k = 6
 ·
  subst h6
  rw [show inB 6 5 10 = true by decide]
  go_enter Tryd.func62, Tryd.ntmps62
  go_wp2
  go_ret2
  exact ⟨_, rfl, IfV.of (.inr ⟨_, _, rfl⟩) (fun _ => rfl), uh B0⟩
 by_cases h7 : k = 7
 ·
  subst h7
  rw [show inB 7 5 10 = true by decide]
  go_enter Tryd.func62, Tryd.ntmps62
  go_wp2
  go_ret2
  exact ⟨_, rfl, IfV.of (.inr ⟨_, _, rfl⟩) (fun _ => rfl), uh B0⟩
 by_cases h8 : k = 8
 ·
  subst h8
  rw [show inB 8 5 10 = true by decide]
  go_enter Tryd.func62, Tryd.ntmps62
  go_wp2
  go_ret2
  exact ⟨_, rfl, IfV.of (.inr ⟨_, _, rfl⟩) (fun _ => rfl), uh B0⟩
 by_cases h9 : k = 9
 ·
  subst h9
  rw [show inB 9 5 10 = true by decide]
  go_enter Tryd.func62, Tryd.ntmps62
  go_wp2
  go_ret2
  exact ⟨_, rfl, IfV.of (.inr ⟨_, _, rfl⟩) (fun _ => rfl), uh B0⟩
 by_cases h10 : k = 10
 ·
  subst h10
  rw [show inB 10 5 10 = true by decide]
  go_enter Tryd.func62, Tryd.ntmps62
  go_wp2
  go_ret2
  exact ⟨_, rfl, IfV.of (.inr ⟨_, _, rfl⟩) (fun _ => rfl), uh B0⟩
 have g5 : (k == 5) = false := beq_eq_false_iff_ne.2 h5
 have g6 : (k == 6) = false := beq_eq_false_iff_ne.2 h6
 have g7 : (k == 7) = false := beq_eq_false_iff_ne.2 h7
 have g8 : (k == 8) = false := beq_eq_false_iff_ne.2 h8
 have g9 : (k == 9) = false := beq_eq_false_iff_ne.2 h9
 have g10 : (k == 10) = false := beq_eq_false_iff_ne.2 h10
 rw [show inB k 5 10 = false by unfold inB; simp; omega]
 go_enter Tryd.func62, Tryd.ntmps62
 go_wp2
 go_ret2
 exact ⟨_, rfl, IfV.of (.inl rfl) (fun h => by cases h), uh B0⟩
theorem here_one (k : Int) : hereV k 0 ⟨#[]⟩ 1 = (k == 4) := by
 unfold hereV Ex.here
 simp only [List.length_replicate, eqE1]
 by_cases h1 : k = 1
 · subst h1; rfl
 by_cases h2 : k = 2
 · subst h2; simp
 by_cases h12 : k = 12
 · subst h12; simp
 by_cases h11 : k = 11
 · subst h11; simp
 by_cases h3 : k = 3
 · subst h3; rfl
 by_cases h4 : k = 4
 · subst h4; rfl
 rw [if_neg (by simp), if_neg h1, if_neg (by omega), if_neg h3, if_neg h4, show (k == 4) = false from beq_eq_false_iff_ne.2 h4]
 split
 · rfl
 · rfl
theorem here_two (k : Int) : hereV k 0 ⟨#[]⟩ 2 = inB k 5 10 := by
 unfold hereV Ex.here
 simp only [List.length_replicate, eqE1]
 by_cases h1 : k = 1
 · subst h1; rfl
 by_cases h2 : k = 2
 · subst h2; simp [inB]
 by_cases h12 : k = 12
 · subst h12; simp [inB]
 by_cases h11 : k = 11
 · subst h11; simp [inB]
 by_cases h3 : k = 3
 · subst h3; rfl
 by_cases h4 : k = 4
 · subst h4; rfl
 rw [if_neg (by simp), if_neg h1, if_neg (by omega), if_neg h3, if_neg h4]
 split
 · rename_i h; rw [inB_t _ _ _ h.1 h.2]; rfl
 · rename_i h; rw [inB_f _ _ _ h]
theorem here_more (k n : Int) (s : ByteArray) (ll : Nat) (h : 3 ≤ ll) : hereV k n s ll = false := by
 have e0 : (ll == 0) = false := beq_eq_false_iff_ne.2 (by omega)
 have e1 : (ll == 1) = false := beq_eq_false_iff_ne.2 (by omega)
 have e2 : (ll == 2) = false := beq_eq_false_iff_ne.2 (by omega)
 unfold hereV Ex.here
 simp only [List.length_replicate, e0, e1, e2, Bool.and_false]
 repeat' split
 all_goals rfl
theorem hereV_n (k n : Int) (s : ByteArray) (ll : Nat) (h : 1 ≤ ll) (hn : n ≠ 0) : hereV k n s ll = false := by
 have e0 : (ll == 0) = false := beq_eq_false_iff_ne.2 (by omega)
 have en : (n != 0) = true := by simp [hn]
 unfold hereV Ex.here
 simp only [List.length_replicate, e0, Bool.and_false, en, Bool.and_true]
 by_cases h1 : k = 1
 ·
  subst h1; repeat' split
  all_goals first | rfl | omega
 by_cases h11 : k = 11
 ·
  subst h11; repeat' split
  all_goals first | rfl | omega
 rw [if_pos (by simp [h1, h11])]
theorem hereV_s (k n : Int) (s : ByteArray) (ll : Nat) (h : 1 ≤ ll) (hs : s ≠ E0) : hereV k n s ll = false := by
 have e0 : (ll == 0) = false := beq_eq_false_iff_ne.2 (by omega)
 have es := (emp_E s hs).2
 unfold hereV Ex.here
 simp only [List.length_replicate, e0, Bool.and_false, es, Bool.not_false, Bool.and_true]
 by_cases h1 : k = 2
 ·
  subst h1; repeat' split
  all_goals first | rfl | omega
 by_cases h11 : k = 12
 ·
  subst h11; repeat' split
  all_goals first | rfl | omega
 rw [if_pos (by simp [h1, h11])]
theorem okf_v (d : Nat) (k n : Int) (s : ByteArray) (l : List Ex) : okF (d + 1) false ⟨k, n, s, l⟩ = (hereV k n s l.length && l.all (okF d false)) := by
 rw [okF_s, here_is]
 rfl
theorem tv_if (e : Ex) : ∃ t x, tv e = .iface t x := by
 obtain ⟨k, n, s, l⟩ := e
 rw [tv]
 unfold tvC
 repeat' split
 all_goals exact ⟨_, _, rfl⟩
def TermR (d : Nat) (e : Ex) (w : World) (r : Ending) (w' : World) : Prop := ∃ v, r = .returned (.tuple #[v, .bool (okF d false e)]) ∧ (IfV v ∧ (okF d false e = true → v = tv e)) ∧ Below w.heap.size w w'
theorem termR_of {d : Nat} {e : Ex} {w : World} {r : Ending} {w' : World} {v : Value} {q : Bool} (h : okF d false e = q) (hr : r = .returned (.tuple #[v, .bool q])) (hv : IfV v ∧ (q = true → v = tv e)) (hb : Below w.heap.size w w') : TermR d e w r w' := ⟨v, by rw [h]; exact hr, ⟨hv.1, fun x => hv.2 (h.symm.trans x)⟩, hb⟩
def TermP (d : Nat) : Prop := ∀ (e : Ex) (b : Option Addr) (cap : Nat) (w : World), RdX w 0 e b → e.sz ≤ 1048576 → TabK w → Calls Tryd.prog 49 #[.agg (e.cs b cap), .int .i64 d] w (TermR d e w)
theorem rd_at {w : World} {e : Ex} {b : Option Addr} (h : RdX w 0 e b) {i : Nat} (hi : i < e.l.length) : ∃ p po, b = some ⟨p, po, none⟩ ∧ p < w.heap.size ∧ OneX w 0 p (po + i * 4) (xAt e.l i) := by
 rw [RdX_eq] at h
 rcases h with h | ⟨p, po, rfl, _, hp, hc⟩
 · rw [h] at hi; simp at hi
 · exact ⟨p, po, rfl, hp, hc i hi⟩
theorem term_zero : TermP 0 := by
 intro e b cap w hr hz ht
 have B0 := hide (below_new w (.cells (e.cs b cap) 43))
 have FN := hide (fun r w' v => termR_of (d := 0) (e := e) (w := w) (r := r) (w' := w') (v := v) rfl)
 generalize TermR 0 e w = R at *
 unfold Ex.cs at B0 ⊢
 go_enter Tryd.func49, Tryd.ntmps49
 go_wp2
 (try go_ret2)
 exact uh FN _ _ _ rfl (IfV.of (by first | exact .inl rfl | exact .inr ⟨_, _, rfl⟩) (fun h => by cases h)) (uh B0)
theorem term_nil (d : Nat) (h6 : d ≤ 6) (k n : Int) (s : ByteArray) (b : Option Addr) (cap : Nat) (w : World) (hs : s.size ≤ 1048576) (ht : TabK w) : Calls Tryd.prog 49 #[.agg #[.int .i64 k, .int .i64 n, .string s, .slice b 0 cap], .int .i64 ((d + 1 : Nat) : Int)] w (TermR (d + 1) ⟨k, n, s, []⟩ w) := by
 obtain ⟨W, hW⟩ : ∃ W, w.alloc (.cells #[.int .i64 k, .int .i64 n, .string s, .slice b 0 cap] 43) = W := ⟨_, rfl⟩
 have B0 := hide (below_new w (.cells #[.int .i64 k, .int .i64 n, .string s, .slice b 0 cap] 43))
 have hg : W.heap[w.heap.size]? = some (.cells #[.int .i64 k, .int .i64 n, .string s, .slice b 0 cap] 43 (0, 0)) := by rw [← hW]; exact Array.getElem?_push_size
 rw [hW] at B0
 have x0 := Lib.cell_of_heap hg 0
 have x1 := Lib.cell_of_heap hg 1
 have x2 := Lib.cell_of_heap hg 2
 have x3 := Lib.cell_of_heap hg 3
 have xl : w.heap.size < W.heap.size := (Array.getElem?_eq_some_iff.1 hg).1
 have hd0 : (((d + 1 : Nat) : Int) == 0) = false := beq_eq_false_iff_ne.2 (by omega)
 have hd1 : ((d + 1 : Nat) : Int) - 1 = (d : Int) := by omega
 have hdb : 0 ≤ ((d + 1 : Nat) : Int) ∧ ((d + 1 : Nat) : Int) ≤ 100 := by omega
 have LF := hide (leaf_any k n s b 0 cap W (by omega) (ht.next (uh B0)))
 have FN := hide (fun r w' v q (h : hereV k n s 0 = q) => termR_of (d := d + 1) (e := ⟨k, n, s, []⟩) (w := w) (r := r) (w' := w') (v := v) ((okf_v d k n s []).trans ((Bool.and_true _).trans h)))
 have TV := hide (show tv ⟨k, n, s, []⟩ = tvC k n s [] by rw [tv]; rfl)
 rw [uh TV] at FN
 generalize TermR (d + 1) ⟨k, n, s, []⟩ w = R at *
 clear hg xl ht TV
 generalize hDD : ((d + 1 : Nat) : Int) = DD at *
 go_enter Tryd.func49, Tryd.ntmps49
 go_wp2_with fail
 refine (uh LF).mono ?_
 rintro r w1 ⟨v, rfl, hv, hb1⟩
 have F2 := hide (uh FN (.returned (.tuple #[v, .bool (hereV k n s 0)])) w1 v _ rfl rfl hv ((uh B0).trans (hb1.mono (uh B0).size)))
 generalize hereV k n s 0 = q at *
 clear FN hv hb1
 go_wp2
 (try go_ret2)
 exact uh F2
theorem term_bad (d : Nat) (h6 : d ≤ 6) (k n : Int) (s : ByteArray) (l : List Ex) (b : Option Addr) (cap : Nat) (w : World) (hz : l.length ≤ 1048576) (h1 : 1 ≤ l.length) (h : 3 ≤ l.length ∨ n ≠ 0 ∨ s ≠ E0) : Calls Tryd.prog 49 #[.agg #[.int .i64 k, .int .i64 n, .string s, .slice b l.length cap], .int .i64 ((d + 1 : Nat) : Int)] w (TermR (d + 1) ⟨k, n, s, l⟩ w) := by
 have V : hereV k n s l.length = false := by
  rcases h with h | h | h
  · exact here_more k n s _ h
  · exact hereV_n k n s _ h1 h
  · exact hereV_s k n s _ h1 h
 have FN := hide (fun r w' v => termR_of (d := d + 1) (e := ⟨k, n, s, l⟩) (w := w) (r := r) (w' := w') (v := v) (q := false) (by rw [okf_v, V]; rfl))
 generalize TermR (d + 1) ⟨k, n, s, l⟩ w = R at *
 clear V
 generalize l.length = ll at *
 obtain ⟨W, hW⟩ : ∃ W, w.alloc (.cells #[.int .i64 k, .int .i64 n, .string s, .slice b ll cap] 43) = W := ⟨_, rfl⟩
 have B0 := hide (below_new w (.cells #[.int .i64 k, .int .i64 n, .string s, .slice b ll cap] 43))
 have hg : W.heap[w.heap.size]? = some (.cells #[.int .i64 k, .int .i64 n, .string s, .slice b ll cap] 43 (0, 0)) := by rw [← hW]; exact Array.getElem?_push_size
 rw [hW] at B0
 have x0 := Lib.cell_of_heap hg 0
 have x1 := Lib.cell_of_heap hg 1
 have x2 := Lib.cell_of_heap hg 2
 have x3 := Lib.cell_of_heap hg 3
 have xl : w.heap.size < W.heap.size := (Array.getElem?_eq_some_iff.1 hg).1
 have hd0 : (((d + 1 : Nat) : Int) == 0) = false := beq_eq_false_iff_ne.2 (by omega)
 have hd1 : ((d + 1 : Nat) : Int) - 1 = (d : Int) := by omega
 have hdb : 0 ≤ ((d + 1 : Nat) : Int) ∧ ((d + 1 : Nat) : Int) ≤ 100 := by omega
 clear hg xl
 have h0 : ((ll : Int) == 0) = false := beq_eq_false_iff_ne.2 (by omega)
 generalize hDD : ((d + 1 : Nat) : Int) = DD at *
 by_cases h3 : 3 ≤ ll
 ·
  have g3 : (2 : Int) < (ll : Int) := by omega
  clear h
  go_enter Tryd.func49, Tryd.ntmps49
  go_wp2
  (try go_ret2)
  exact uh FN _ _ _ rfl (IfV.of (by first | exact .inl rfl | exact .inr ⟨_, _, rfl⟩) (fun h => by cases h)) (uh B0)
 ·
  have g3 : decide ((2 : Int) < (ll : Int)) = false := decide_eq_false (by omega)
  have g4 : decide (2 < ll) = false := decide_eq_false (by omega)
  by_cases hn : n = 0
  ·
   subst hn
   have hs : s ≠ E0 := by rcases h with h | h | h; omega; exact absurd rfl h; exact h
   obtain ⟨e1, e2⟩ := emp_E s hs
   clear h
   go_enter Tryd.func49, Tryd.ntmps49
   go_wp2
   (try go_ret2)
   exact uh FN _ _ _ rfl (IfV.of (by first | exact .inl rfl | exact .inr ⟨_, _, rfl⟩) (fun h => by cases h)) (uh B0)
  ·
   have en : (n == 0) = false := beq_eq_false_iff_ne.2 hn
   clear h
   go_enter Tryd.func49, Tryd.ntmps49
   go_wp2
   (try go_ret2)
   exact uh FN _ _ _ rfl (IfV.of (by first | exact .inl rfl | exact .inr ⟨_, _, rfl⟩) (fun h => by cases h)) (uh B0)
theorem term_one (d : Nat) (h6 : d ≤ 6) (ih : TermP d) (k : Int) (a : Ex) (b : Option Addr) (cap : Nat) (w : World) (hr : RdX w 0 ⟨k, 0, ⟨#[]⟩, [a]⟩ b) (hz : a.sz ≤ 1048576) (ht : TabK w) : Calls Tryd.prog 49 #[.agg #[.int .i64 k, .int .i64 0, .string ⟨#[]⟩, .slice b 1 cap], .int .i64 ((d + 1 : Nat) : Int)] w (TermR (d + 1) ⟨k, 0, ⟨#[]⟩, [a]⟩ w) := by
 obtain ⟨W, hW⟩ : ∃ W, w.alloc (.cells #[.int .i64 k, .int .i64 0, .string ⟨#[]⟩, .slice b 1 cap] 43) = W := ⟨_, rfl⟩
 have B0 := hide (below_new w (.cells #[.int .i64 k, .int .i64 0, .string ⟨#[]⟩, .slice b 1 cap] 43))
 have hg : W.heap[w.heap.size]? = some (.cells #[.int .i64 k, .int .i64 0, .string ⟨#[]⟩, .slice b 1 cap] 43 (0, 0)) := by rw [← hW]; exact Array.getElem?_push_size
 rw [hW] at B0
 have x0 := Lib.cell_of_heap hg 0
 have x1 := Lib.cell_of_heap hg 1
 have x2 := Lib.cell_of_heap hg 2
 have x3 := Lib.cell_of_heap hg 3
 have xl : w.heap.size < W.heap.size := (Array.getElem?_eq_some_iff.1 hg).1
 have hd0 : (((d + 1 : Nat) : Int) == 0) = false := beq_eq_false_iff_ne.2 (by omega)
 have hd1 : ((d + 1 : Nat) : Int) - 1 = (d : Int) := by omega
 have hdb : 0 ≤ ((d + 1 : Nat) : Int) ∧ ((d + 1 : Nat) : Int) ≤ 100 := by omega
 obtain ⟨p, po, rfl, hp, o0⟩ := rd_at (hr.later (uh B0)) (i := 0) (show 0 < [a].length by simp)
 obtain ⟨e00, e01, e02, c0, cp0, e03, e04⟩ := o0
 simp only [show xAt [a] 0 = a from rfl] at e00 e01 e02 e03 e04
 rw [Nat.zero_mul, Nat.add_zero] at e00 e01 e02 e03
 have IH := hide (ih a c0 cp0 W e04 hz (ht.next (uh B0)))
 have FN := hide (fun r w' v q (h : (k == 4 && okF d false a) = q) => termR_of (d := d + 1) (e := ⟨k, 0, ⟨#[]⟩, [a]⟩) (w := w) (r := r) (w' := w') (v := v) (q := q) (by rw [okf_v, ← h, show [a].length = 1 from rfl, here_one]; simp))
 have TV := hide (show k = 4 → tv ⟨k, 0, ⟨#[]⟩, [a]⟩ = .iface 96 (.agg #[tv a]) by rintro rfl; exact tv_neg _ _ _)
 generalize tv ⟨k, 0, ⟨#[]⟩, [a]⟩ = tve at *
 generalize TermR (d + 1) ⟨k, 0, ⟨#[]⟩, [a]⟩ w = R at *
 unfold Ex.cs at IH
 generalize a.k = ak at *
 generalize a.n = an at *
 generalize a.s = asv at *
 generalize a.l.length = al at *
 have y0 : ∀ w1, Below W.heap.size W w1 → w1.cell? ⟨w.heap.size, 0, none⟩ = some (.int .i64 k) := fun w1 hb => (hb.cell (p := ⟨w.heap.size, _, none⟩) xl).trans x0
 have y3 : ∀ w1, Below W.heap.size W w1 → w1.cell? ⟨w.heap.size, 3, none⟩ = some (.slice (some ⟨p, po, none⟩) 1 cap) := fun w1 hb => (hb.cell (p := ⟨w.heap.size, _, none⟩) xl).trans x3
 have Y0 := hide y0
 have Y3 := hide y3
 have KQ : k = 4 ∨ k ≠ 4 := by omega
 clear hg xl ht hr hz ih e04 y0 y3 hp
 generalize hDD : ((d + 1 : Nat) : Int) = DD at *
 go_enter Tryd.func49, Tryd.ntmps49
 go_wp2_with fail
 refine (uh IH).mono ?_
 rintro r w1 ⟨v, rfl, hv, hb1⟩
 have BB := hide ((uh B0).trans (hb1.mono (uh B0).size))
 have z0 := uh Y0 w1 hb1
 have z3 := uh Y3 w1 hb1
 have HV := hide hv
 generalize okF d false a = q at *
 clear hv hb1 Y0 Y3 IH x0 x1 x2 x3 e00 e01 e02 e03
 cases q with
 | false =>
  have F2 := hide (fun r w' v => uh FN r w' v false (Bool.and_false _))
  clear FN
  go_wp2
  (try go_ret2)
  exact uh F2 _ _ _ rfl (IfV.of (by first | exact .inl rfl | exact .inr ⟨_, _, rfl⟩) (fun h => by cases h)) (uh BB)
 | true =>
  obtain ⟨t1, x1, e1⟩ := tv_if a
  have hve := (uh HV).2 rfl
  rw [e1] at hve TV
  subst hve
  clear HV e1
  have xl1 : w.heap.size < w1.heap.size := World.block_lt_of_cell? w1 _ z0
  have q0 : ∀ y : Sub w1.heap.size w1, y.w.cell? ⟨w.heap.size, 0, none⟩ = some (.int .i64 k) := fun y => (y.h.cell (p := ⟨w.heap.size, _, none⟩) xl1).trans z0
  have ne := Sub.ne w1.heap.size w1
  have BY := hide (fun y : Sub w1.heap.size w1 => (uh BB).trans (y.h.mono (uh BB).size))
  clear xl1
  rcases KQ with rfl | hk
  ·
   have F2 := hide (fun r w' (hr : r = .returned (.tuple #[.iface 96 (.agg #[.iface t1 x1]), .bool true])) hb => uh FN r w' _ true rfl hr (IfV.of (.inr ⟨_, _, rfl⟩) (fun _ => (uh TV rfl).symm)) hb)
   clear FN TV
   go_wp2_with fail
   refine wp_region_sub (⟨w1, Below.refl _ _⟩ : Sub w1.heap.size w1) (by kernel_rfl) (by kernel_rfl) ?_
   repeat (go_big_quiet_step (first | fail))
   refine wpQuiet_nil ?_
   intro y
   go_wp2
   (try go_ret2)
   exact uh F2 _ _ rfl (uh BY _)
  ·
   have hk4 : (k == 4) = false := beq_eq_false_iff_ne.2 hk
   have F2 := hide (fun r w' v => uh FN r w' v false (by rw [hk4]; rfl))
   clear FN TV
   go_wp2_with fail
   refine wp_region_sub (⟨w1, Below.refl _ _⟩ : Sub w1.heap.size w1) (by kernel_rfl) (by kernel_rfl) ?_
   repeat (go_big_quiet_step (first | fail))
   refine wpQuiet_nil ?_
   intro y
   go_wp2
   (try go_ret2)
   exact uh F2 _ _ _ rfl (IfV.of (by first | exact .inl rfl | exact .inr ⟨_, _, rfl⟩) (fun h => by cases h)) (uh BY _)
theorem term_two (d : Nat) (h6 : d ≤ 6) (ih : TermP d) (k : Int) (a a2 : Ex) (b : Option Addr) (cap : Nat) (w : World) (hr : RdX w 0 ⟨k, 0, ⟨#[]⟩, [a, a2]⟩ b) (hz : a.sz ≤ 1048576) (hz2 : a2.sz ≤ 1048576) (ht : TabK w) : Calls Tryd.prog 49 #[.agg #[.int .i64 k, .int .i64 0, .string ⟨#[]⟩, .slice b 2 cap], .int .i64 ((d + 1 : Nat) : Int)] w (TermR (d + 1) ⟨k, 0, ⟨#[]⟩, [a, a2]⟩ w) := by
 obtain ⟨W, hW⟩ : ∃ W, w.alloc (.cells #[.int .i64 k, .int .i64 0, .string ⟨#[]⟩, .slice b 2 cap] 43) = W := ⟨_, rfl⟩
 have B0 := hide (below_new w (.cells #[.int .i64 k, .int .i64 0, .string ⟨#[]⟩, .slice b 2 cap] 43))
 have hg : W.heap[w.heap.size]? = some (.cells #[.int .i64 k, .int .i64 0, .string ⟨#[]⟩, .slice b 2 cap] 43 (0, 0)) := by rw [← hW]; exact Array.getElem?_push_size
 rw [hW] at B0
 have x0 := Lib.cell_of_heap hg 0
 have x1 := Lib.cell_of_heap hg 1
 have x2 := Lib.cell_of_heap hg 2
 have x3 := Lib.cell_of_heap hg 3
 have xl : w.heap.size < W.heap.size := (Array.getElem?_eq_some_iff.1 hg).1
 have hd0 : (((d + 1 : Nat) : Int) == 0) = false := beq_eq_false_iff_ne.2 (by omega)
 have hd1 : ((d + 1 : Nat) : Int) - 1 = (d : Int) := by omega
 have hdb : 0 ≤ ((d + 1 : Nat) : Int) ∧ ((d + 1 : Nat) : Int) ≤ 100 := by omega
 obtain ⟨p, po, rfl, hp, o0⟩ := rd_at (hr.later (uh B0)) (i := 0) (show 0 < [a, a2].length by simp)
 obtain ⟨_, _, hpe, _, o1⟩ := rd_at (hr.later (uh B0)) (i := 1) (show 1 < [a, a2].length by simp)
 cases hpe
 obtain ⟨e00, e01, e02, c0, cp0, e03, e04⟩ := o0
 simp only [show xAt [a, a2] 0 = a from rfl] at e00 e01 e02 e03 e04
 obtain ⟨e10, e11, e12, c1, cp1, e13, e14⟩ := o1
 simp only [show xAt [a, a2] 1 = a2 from rfl] at e10 e11 e12 e13 e14
 rw [Nat.zero_mul, Nat.add_zero] at e00 e01 e02 e03
 rw [Nat.one_mul] at e10 e11 e12 e13
 have IH := hide (ih a c0 cp0 W e04 hz (ht.next (uh B0)))
 have IH2 := hide (fun w1 (hb : Below W.heap.size W w1) => ih a2 c1 cp1 w1 (e14.later hb) hz2 ((ht.next (uh B0)).next hb))
 have FN := hide (fun r w' v q (h : (inB k 5 10 && (okF d false a && okF d false a2)) = q) => termR_of (d := d + 1) (e := ⟨k, 0, ⟨#[]⟩, [a, a2]⟩) (w := w) (r := r) (w' := w') (v := v) (q := q) (by rw [okf_v, ← h, show [a, a2].length = 2 from rfl, here_two]; simp))
 have TV := hide (show inB k 5 10 = true → tv ⟨k, 0, ⟨#[]⟩, [a, a2]⟩ = .iface (pairT k) (.agg #[tv a, tv a2]) by intro h; exact tv_two ((inB_iff _ _ _).1 h) _ _ _ _)
 generalize tv ⟨k, 0, ⟨#[]⟩, [a, a2]⟩ = tve at *
 generalize TermR (d + 1) ⟨k, 0, ⟨#[]⟩, [a, a2]⟩ w = R at *
 unfold Ex.cs at IH IH2
 generalize a.k = ak at *
 generalize a.n = an at *
 generalize a.s = asv at *
 generalize a.l.length = al at *
 generalize a2.k = bk at *
 generalize a2.n = bn at *
 generalize a2.s = bs at *
 generalize a2.l.length = bl at *
 have Y0 := hide (fun w1 (hb : Below W.heap.size W w1) => (hb.cell (p := ⟨w.heap.size, 0, none⟩) xl).trans x0)
 have Y3 := hide (fun w1 (hb : Below W.heap.size W w1) => (hb.cell (p := ⟨w.heap.size, 3, none⟩) xl).trans x3)
 have U0 := hide (fun w1 (hb : Below W.heap.size W w1) => (hb.cell (p := ⟨p, po + 4, none⟩) hp).trans e10)
 have U1 := hide (fun w1 (hb : Below W.heap.size W w1) => (hb.cell (p := ⟨p, po + 4 + 1, none⟩) hp).trans e11)
 have U2 := hide (fun w1 (hb : Below W.heap.size W w1) => (hb.cell (p := ⟨p, po + 4 + 2, none⟩) hp).trans e12)
 have U3 := hide (fun w1 (hb : Below W.heap.size W w1) => (hb.cell (p := ⟨p, po + 4 + 3, none⟩) hp).trans e13)
 clear hg xl ht hr hz hz2 ih e04 e14 e10 e11 e12 e13 hp
 generalize hDD : ((d + 1 : Nat) : Int) = DD at *
 go_enter Tryd.func49, Tryd.ntmps49
 go_wp2_with fail
 refine (uh IH).mono ?_
 rintro r w1 ⟨v, rfl, hv, hb1⟩
 have HB1 := hide hb1
 have BB := hide ((uh B0).trans (hb1.mono (uh B0).size))
 have z0 := uh Y0 w1 hb1
 have z3 := uh Y3 w1 hb1
 have u0 := uh U0 w1 hb1
 have u1 := uh U1 w1 hb1
 have u2 := uh U2 w1 hb1
 have u3 := uh U3 w1 hb1
 have HV := hide hv
 have J2 := hide (uh IH2 w1 hb1)
 generalize okF d false a = q at *
 clear hv hb1 U0 U1 U2 U3 IH IH2 x0 x1 x2 x3 e00 e01 e02 e03
 cases q with
 | false =>
  have F2 := hide (fun r w' v => uh FN r w' v false (by rw [Bool.false_and, Bool.and_false]))
  clear FN
  go_wp2
  (try go_ret2)
  exact uh F2 _ _ _ rfl (IfV.of (by first | exact .inl rfl | exact .inr ⟨_, _, rfl⟩) (fun h => by cases h)) (uh BB)
 | true =>
  obtain ⟨t1, x1, e1⟩ := tv_if a
  have hve := (uh HV).2 rfl
  rw [e1] at hve TV
  subst hve
  clear HV e1
  go_wp2_with fail
  refine (uh J2).mono ?_
  rintro r w2 ⟨v2, rfl, hv2, hb2⟩
  have HB2 := hide ((uh HB1).trans (hb2.mono (uh HB1).size))
  have B2 := hide ((uh BB).trans (hb2.mono (uh BB).size))
  have t0 := uh Y0 w2 (uh HB2)
  have HV2 := hide hv2
  generalize okF d false a2 = q2 at *
  clear hv2 hb2 u0 u1 u2 u3 z0 z3 Y0 Y3 J2
  cases q2 with
  | false =>
   have F2 := hide (fun r w' v => uh FN r w' v false (Bool.and_false _))
   clear FN
   go_wp2
   (try go_ret2)
   exact uh F2 _ _ _ rfl (IfV.of (by first | exact .inl rfl | exact .inr ⟨_, _, rfl⟩) (fun h => by cases h)) (uh B2)
  | true =>
   obtain ⟨t2, x2, e2⟩ := tv_if a2
   have hve := (uh HV2).2 rfl
   rw [e2] at hve TV
   subst hve
   clear HV2 e2
   have F2 := hide (fun r w' v q (h : inB k 5 10 = q) => uh FN r w' v q ((Bool.and_true _).trans h))
   have P2 := hide (pair_any k (.iface t1 x1) (.iface t2 x2) w2)
   clear FN
   go_wp2_with fail
   refine (uh P2).mono ?_
   rintro r w3 ⟨x, rfl, hx, hb3⟩
   have F3 := hide (uh F2 (.returned (.tuple #[x, .bool (inB k 5 10)])) w3 x _ rfl rfl ⟨hx.1, fun h => by rw [hx.2 h, uh TV h]⟩ ((uh B2).trans (hb3.mono (uh B2).size)))
   generalize inB k 5 10 = qq at *
   clear F2 hx hb3 P2
   go_wp2
   (try go_ret2)
   exact uh F3
theorem term_all : ∀ d : Nat, d ≤ 6 → TermP d := by
 intro d
 induction d with
 | zero => intro _; exact term_zero
 | succ d ih =>
  intro hd e b cap w hr hz ht
  obtain ⟨k, n, s, l⟩ := e
  have hsz := sz_is ⟨k, n, s, l⟩
  simp only at hsz
  unfold Ex.cs
  simp only
  by_cases hbad : 1 ≤ l.length ∧ (3 ≤ l.length ∨ n ≠ 0 ∨ s ≠ E0)
  · exact term_bad d (by omega) k n s l b cap w (by omega) hbad.1 hbad.2
  ·
   match l, hr, hz, hsz, hbad with
   | [], hr, hz, hsz, hbad => exact term_nil d (by omega) k n s b cap w (by omega) ht
   | [a], hr, hz, hsz, hbad =>
    have hn : n = 0 := Classical.byContradiction fun h => hbad ⟨by simp, .inr (.inl h)⟩
    have hs : s = E0 := Classical.byContradiction fun h => hbad ⟨by simp, .inr (.inr h)⟩
    subst hn hs
    exact term_one d (by omega) (ih (by omega)) k a b cap w hr (by simp [szX] at hsz; omega) ht
   | [a, a2], hr, hz, hsz, hbad =>
    have hn : n = 0 := Classical.byContradiction fun h => hbad ⟨by simp, .inr (.inl h)⟩
    have hs : s = E0 := Classical.byContradiction fun h => hbad ⟨by simp, .inr (.inr h)⟩
    subst hn hs
    exact term_two d (by omega) (ih (by omega)) k a a2 b cap w hr (by simp [szX] at hsz; omega) (by simp [szX] at hsz; omega) ht
   | a :: a2 :: a3 :: r, hr, hz, hsz, hbad => exact absurd ⟨by simp, .inl (by simp)⟩ hbad
theorem ok_cases {d : Nat} {e : Ex} (h : okF (d + 1) false e = true) : (∃ n : Int, (0 ≤ n ∧ n ≤ 65535) ∧ e = ⟨1, n, E0, []⟩) ∨ (∃ s, nameB s = true ∧ e = ⟨2, 0, s, []⟩) ∨ e = ⟨3, 0, E0, []⟩ ∨ (∃ a, okF d false a = true ∧ e = ⟨4, 0, E0, [a]⟩) ∨ (∃ k a b, (5 ≤ k ∧ k ≤ 10) ∧ okF d false a = true ∧ okF d false b = true ∧ e = ⟨k, 0, E0, [a, b]⟩) ∨ (∃ n : Int, (0 ≤ n ∧ n ≤ 9) ∧ e = ⟨11, n, E0, []⟩) ∨ (∃ s, nameB s = true ∧ e = ⟨12, 0, s, []⟩) := by
 obtain ⟨k, n, s, l⟩ := e
 rw [okf_v, Bool.and_eq_true] at h
 obtain ⟨h1, h2⟩ := h
 match l, h1, h2 with
 | [], h1, _ =>
  have hn : k ≠ 1 → k ≠ 11 → n = 0 := fun g1 g2 => Classical.byContradiction fun hn => by
   unfold hereV Ex.here at h1
   rw [if_pos (by simp [g1, g2, hn])] at h1
   cases h1
  have hs : k ≠ 2 → k ≠ 12 → s = E0 := fun g1 g2 => Classical.byContradiction fun hn => by
   have es := (emp_E s hn).2
   unfold hereV Ex.here at h1
   rw [if_pos (by simp [g1, g2, es])] at h1
   cases h1
  by_cases k1 : k = 1
  ·
   subst k1
   obtain rfl := hs (by decide) (by decide)
   rw [show hereV 1 n E0 ([] : List Ex).length = inB n 0 65535 by simp [hereV, Ex.here, eqE]] at h1
   exact .inl ⟨n, (inB_iff _ _ _).1 h1, rfl⟩
  by_cases k2 : k = 2
  ·
   subst k2
   obtain rfl := hn (by decide) (by decide)
   rw [show hereV 2 0 s ([] : List Ex).length = nameB s by simp [hereV, Ex.here]] at h1
   exact .inr (.inl ⟨s, h1, rfl⟩)
  by_cases k11 : k = 11
  ·
   subst k11
   obtain rfl := hs (by decide) (by decide)
   rw [show hereV 11 n E0 ([] : List Ex).length = inB n 0 9 by simp [hereV, Ex.here, eqE]] at h1
   exact .inr (.inr (.inr (.inr (.inr (.inl ⟨n, (inB_iff _ _ _).1 h1, rfl⟩)))))
  by_cases k12 : k = 12
  ·
   subst k12
   obtain rfl := hn (by decide) (by decide)
   rw [show hereV 12 0 s ([] : List Ex).length = nameB s by simp [hereV, Ex.here]] at h1
   exact .inr (.inr (.inr (.inr (.inr (.inr ⟨s, h1, rfl⟩)))))
  obtain rfl := hn k1 k11
  obtain rfl := hs k2 k12
  by_cases k3 : k = 3
  · subst k3; exact .inr (.inr (.inl rfl))
  exfalso
  unfold hereV Ex.here at h1
  simp only [List.length_replicate, List.length_nil] at h1
  rw [if_neg (by simp [eqE]), if_neg k1, if_neg (by omega), if_neg k3] at h1
  repeat' (split at h1)
  all_goals first | cases h1 | exact absurd h1 (by decide) | omega
 | [a], h1, h2 =>
  have hn : n = 0 := Classical.byContradiction fun hn => by rw [hereV_n k n s _ (by simp) hn] at h1; cases h1
  have hs : s = E0 := Classical.byContradiction fun hn => by rw [hereV_s k n s _ (by simp) hn] at h1; cases h1
  subst hn hs
  have h3 : hereV k 0 ⟨#[]⟩ 1 = true := h1
  rw [here_one, beq_iff_eq] at h3
  subst h3
  exact .inr (.inr (.inr (.inl ⟨a, by simpa using h2, rfl⟩)))
 | [a, b], h1, h2 =>
  have hn : n = 0 := Classical.byContradiction fun hn => by rw [hereV_n k n s _ (by simp) hn] at h1; cases h1
  have hs : s = E0 := Classical.byContradiction fun hn => by rw [hereV_s k n s _ (by simp) hn] at h1; cases h1
  subst hn hs
  have h3 : hereV k 0 ⟨#[]⟩ 2 = true := h1
  rw [here_two] at h3
  have h4 : okF d false a = true ∧ okF d false b = true := by simpa using h2
  exact .inr (.inr (.inr (.inr (.inl ⟨k, a, b, (inB_iff _ _ _).1 h3, h4.1, h4.2, rfl⟩))))
 | a :: b :: c :: r, h1, _ => rw [here_more k n s _ (by simp)] at h1; cases h1
theorem ta_no {P : Program} {T u it : TypeId} {x z : Value} {fs : Array Field} (w : World) (hu : P.underlying u = some (.struct fs)) (hz : (zeroValue u).run P w = .ok z w) (h : T ≠ u) : (Instr.typeAssert (.iface T x) it u true).run P w = .ok (.tuple #[z, .bool false]) w := by
 simp [Instr.typeAssert, run_underlying hu, h, hz]
theorem taN_num (T : TypeId) (x : Value) (h : T ≠ 115) (w : World) : (Instr.typeAssert (.iface T x) 81 115 true).run Tryd.prog w = .ok (.tuple #[.agg #[.int .i64 0], .bool false]) w := ta_no w Tryd.underlying115 (by kernel_rfl) h
theorem taY_num (x : Value) (w : World) : (Instr.typeAssert (.iface 115 x) 81 115 true).run Tryd.prog w = .ok (.tuple #[x, .bool true]) w := by kernel_rfl
theorem taN_sym (T : TypeId) (x : Value) (h : T ≠ 107) (w : World) : (Instr.typeAssert (.iface T x) 81 107 true).run Tryd.prog w = .ok (.tuple #[.agg #[.string ⟨#[]⟩], .bool false]) w := ta_no w Tryd.underlying107 (by kernel_rfl) h
theorem taY_sym (x : Value) (w : World) : (Instr.typeAssert (.iface 107 x) 81 107 true).run Tryd.prog w = .ok (.tuple #[x, .bool true]) w := by kernel_rfl
theorem taN_here (T : TypeId) (x : Value) (h : T ≠ 109) (w : World) : (Instr.typeAssert (.iface T x) 81 109 true).run Tryd.prog w = .ok (.tuple #[.agg #[], .bool false]) w := ta_no w Tryd.underlying109 (by kernel_rfl) h
theorem taY_here (x : Value) (w : World) : (Instr.typeAssert (.iface 109 x) 81 109 true).run Tryd.prog w = .ok (.tuple #[x, .bool true]) w := by kernel_rfl
theorem taN_neg (T : TypeId) (x : Value) (h : T ≠ 96) (w : World) : (Instr.typeAssert (.iface T x) 81 96 true).run Tryd.prog w = .ok (.tuple #[.agg #[.nilIface], .bool false]) w := ta_no w Tryd.underlying96 (by kernel_rfl) h
theorem taN_add (T : TypeId) (x : Value) (h : T ≠ 118) (w : World) : (Instr.typeAssert (.iface T x) 81 118 true).run Tryd.prog w = .ok (.tuple #[.agg #[.nilIface, .nilIface], .bool false]) w := ta_no w Tryd.underlying118 (by kernel_rfl) h
theorem taY_add (x : Value) (w : World) : (Instr.typeAssert (.iface 118 x) 81 118 true).run Tryd.prog w = .ok (.tuple #[x, .bool true]) w := by kernel_rfl
theorem taN_sub (T : TypeId) (x : Value) (h : T ≠ 119) (w : World) : (Instr.typeAssert (.iface T x) 81 119 true).run Tryd.prog w = .ok (.tuple #[.agg #[.nilIface, .nilIface], .bool false]) w := ta_no w Tryd.underlying119 (by kernel_rfl) h
theorem taY_sub (x : Value) (w : World) : (Instr.typeAssert (.iface 119 x) 81 119 true).run Tryd.prog w = .ok (.tuple #[x, .bool true]) w := by kernel_rfl
theorem taN_mul (T : TypeId) (x : Value) (h : T ≠ 120) (w : World) : (Instr.typeAssert (.iface T x) 81 120 true).run Tryd.prog w = .ok (.tuple #[.agg #[.nilIface, .nilIface], .bool false]) w := ta_no w Tryd.underlying120 (by kernel_rfl) h
theorem taY_mul (x : Value) (w : World) : (Instr.typeAssert (.iface 120 x) 81 120 true).run Tryd.prog w = .ok (.tuple #[x, .bool true]) w := by kernel_rfl
theorem taN_div (T : TypeId) (x : Value) (h : T ≠ 121) (w : World) : (Instr.typeAssert (.iface T x) 81 121 true).run Tryd.prog w = .ok (.tuple #[.agg #[.nilIface, .nilIface], .bool false]) w := ta_no w Tryd.underlying121 (by kernel_rfl) h
theorem taY_div (x : Value) (w : World) : (Instr.typeAssert (.iface 121 x) 81 121 true).run Tryd.prog w = .ok (.tuple #[x, .bool true]) w := by kernel_rfl
theorem taN_and (T : TypeId) (x : Value) (h : T ≠ 122) (w : World) : (Instr.typeAssert (.iface T x) 81 122 true).run Tryd.prog w = .ok (.tuple #[.agg #[.nilIface, .nilIface], .bool false]) w := ta_no w Tryd.underlying122 (by kernel_rfl) h
theorem taY_and (x : Value) (w : World) : (Instr.typeAssert (.iface 122 x) 81 122 true).run Tryd.prog w = .ok (.tuple #[x, .bool true]) w := by kernel_rfl
theorem taY_or (x : Value) (w : World) : (Instr.typeAssert (.iface 123 x) 81 123 true).run Tryd.prog w = .ok (.tuple #[x, .bool true]) w := by kernel_rfl
theorem taN_sect (T : TypeId) (x : Value) (h : T ≠ 111) (w : World) : (Instr.typeAssert (.iface T x) 81 111 true).run Tryd.prog w = .ok (.tuple #[.agg #[.int .i64 0], .bool false]) w := ta_no w Tryd.underlying111 (by kernel_rfl) h
theorem taY_sect (x : Value) (w : World) : (Instr.typeAssert (.iface 111 x) 81 111 true).run Tryd.prog w = .ok (.tuple #[x, .bool true]) w := by kernel_rfl
theorem me_num (c : Value) (w : World) : (method 248 115 (.agg #[c]) "loop.example/g00329/impl.parts").run Tryd.prog w = .ok (93, .agg #[]) w := by kernel_rfl
theorem me_sym (c : Value) (w : World) : (method 248 107 (.agg #[c]) "loop.example/g00329/impl.parts").run Tryd.prog w = .ok (93, .agg #[]) w := by kernel_rfl
theorem me_sect (c : Value) (w : World) : (method 248 111 (.agg #[c]) "loop.example/g00329/impl.parts").run Tryd.prog w = .ok (93, .agg #[]) w := by kernel_rfl
theorem me_glob (c : Value) (w : World) : (method 248 116 (.agg #[c]) "loop.example/g00329/impl.parts").run Tryd.prog w = .ok (93, .agg #[]) w := by kernel_rfl
theorem me_here (w : World) : (method 248 109 (.agg #[]) "loop.example/g00329/impl.parts").run Tryd.prog w = .ok (93, .agg #[]) w := by kernel_rfl
theorem me_neg (c : Value) (w : World) : (method 248 96 (.agg #[c]) "loop.example/g00329/impl.parts").run Tryd.prog w = .ok (91, .agg #[c]) w := by kernel_rfl
theorem me_add (c d : Value) (w : World) : (method 248 118 (.agg #[c, d]) "loop.example/g00329/impl.parts").run Tryd.prog w = .ok (92, .agg #[c, d]) w := by kernel_rfl
theorem me_sub (c d : Value) (w : World) : (method 248 119 (.agg #[c, d]) "loop.example/g00329/impl.parts").run Tryd.prog w = .ok (92, .agg #[c, d]) w := by kernel_rfl
theorem me_mul (c d : Value) (w : World) : (method 248 120 (.agg #[c, d]) "loop.example/g00329/impl.parts").run Tryd.prog w = .ok (92, .agg #[c, d]) w := by kernel_rfl
theorem me_div (c d : Value) (w : World) : (method 248 121 (.agg #[c, d]) "loop.example/g00329/impl.parts").run Tryd.prog w = .ok (92, .agg #[c, d]) w := by kernel_rfl
theorem me_and (c d : Value) (w : World) : (method 248 122 (.agg #[c, d]) "loop.example/g00329/impl.parts").run Tryd.prog w = .ok (92, .agg #[c, d]) w := by kernel_rfl
theorem me_or (c d : Value) (w : World) : (method 248 123 (.agg #[c, d]) "loop.example/g00329/impl.parts").run Tryd.prog w = .ok (92, .agg #[c, d]) w := by kernel_rfl
theorem parts0 (w : World) : Calls Tryd.prog 93 #[.agg #[]] w fun r w' => r = .returned (.slice none 0 0) ∧ Below w.heap.size w w' := by
 go_enter Tryd.func93, Tryd.ntmps93
 go_wp2
 go_ret
 exact ⟨rfl, by first | exact Below.refl _ _ | exact below_new w _⟩
theorem two_new (w : World) (o1 o2 : Obj) : ((w.alloc o1).alloc o2).heap[w.heap.size + 1]? = some o2 ∧ Below w.heap.size w ((w.alloc o1).alloc o2) := by
 have h1 : (w.alloc o1).heap.size = w.heap.size + 1 := by simp
 refine ⟨?_, ((Below.refl _ _).alloc (Nat.le_refl _) _).alloc (by simp) _⟩
 rw [← h1]
 exact Array.getElem?_push_size
theorem parts1 (t : TypeId) (x : Value) (w : World) : Calls Tryd.prog 91 #[.agg #[.iface t x]] w fun r w' => ∃ g, r = .returned (.slice (some ⟨g, 0, none⟩) 1 1) ∧ w'.heap[g]? = some (.cells #[.iface t x] 81 (0, 0)) ∧ Below w.heap.size w w' := by
 have T := hide (two_new w (.cells #[.iface t x] 96) (.cells #[.iface t x] 81))
 go_enter Tryd.func91, Tryd.ntmps91
 go_wp2
 go_ret
 exact ⟨_, rfl, (uh T).1, (uh T).2⟩
theorem parts2 (t u : TypeId) (x y : Value) (w : World) : Calls Tryd.prog 92 #[.agg #[.iface t x, .iface u y]] w fun r w' => ∃ g, r = .returned (.slice (some ⟨g, 0, none⟩) 2 2) ∧ w'.heap[g]? = some (.cells #[.iface t x, .iface u y] 81 (0, 0)) ∧ Below w.heap.size w w' := by
 have T := hide (two_new w (.cells #[.iface t x, .iface u y] 99) (.cells #[.iface t x, .iface u y] 81))
 go_enter Tryd.func92, Tryd.ntmps92
 go_wp2
 go_ret
 exact ⟨_, rfl, (uh T).1, (uh T).2⟩
section
theorem bsets {B b : Nat} {a : World} (hb : B ≤ b) : ∀ (vs : List Value) (o : Nat) (w : World), Below B a w → Below B a (w.setCells b o vs)
 | [], _, _, h => h
 | v :: vs, o, w, h => bsets hb vs (o + 1) _ (h.setCell (p := ⟨b, o, none⟩) hb v)
theorem ssets (b : Nat) : ∀ (vs : List Value) (o : Nat) (w : World), (w.setCells b o vs).heap.size = w.heap.size
 | [], _, _ => rfl
 | v :: vs, o, w => by
  have := ssets b vs (o + 1) (w.setCell ⟨b, o, none⟩ v)
  show ((w.setCell ⟨b, o, none⟩ v).setCells b (o + 1) vs).heap.size = _
  rw [this]
  simp
theorem rsets (b : Nat) (t : TypeId) : ∀ (vs : List Value) (o : Nat) (W : World) (C : Array Value), W.heap[b]? = some (.cells C t (0, 0)) → ∃ C', (W.setCells b o vs).heap[b]? = some (.cells C' t (0, 0)) ∧ C'.size = C.size
 | [], _, _, C, h => ⟨C, h, rfl⟩
 | v :: vs, o, W, C, h => by
  obtain ⟨C', h1, h2⟩ := rsets b t vs (o + 1) _ _ (heap_setCell_same W b o C t v h)
  exact ⟨C', h1, by rw [h2]; simp⟩
theorem cellb {w w' : World} {b o : Nat} {v : Value} (hb : Below w.heap.size w w') (h : w.cell? ⟨b, o, none⟩ = some v) : w'.cell? ⟨b, o, none⟩ = some v :=
 (hb.cell (p := ⟨b, o, none⟩) (World.block_lt_of_cell? w _ h)).trans h
structure Kd (α κ : Type) where
 n : Nat
 z : α
 cs : α → κ → List Value
 len : ∀ x p, (cs x p).length = n
 rd : World → Nat → α → κ → Prop
 keep : ∀ {w w' : World} {B : Nat} (x : α) (p : κ), w.heap.size ≤ w'.heap.size → (∀ b o v, B ≤ b → b < w.heap.size → w.cell? ⟨b, o, none⟩ = some v → w'.cell? ⟨b, o, none⟩ = some v) → rd w B x p → rd w' B x p
 lower : ∀ {w : World} {B C : Nat} (x : α) (p : κ), C ≤ B → rd w B x p → rd w C x p
 ow : World → α → κ → List Nat → Prop
 okeep : ∀ {w w' : World} (x : α) (p : κ) (F : List Nat), (∀ b ∈ F, w'.heap[b]? = w.heap[b]?) → ow w x p F → ow w' x p F
 olt : ∀ {w : World} (x : α) (p : κ) (F : List Nat), ow w x p F → ∀ b ∈ F, b < w.heap.size
 ord : ∀ {w : World} {B : Nat} (x : α) (p : κ) (F : List Nat), (∀ b ∈ F, B ≤ b) → ow w x p F → rd w B x p
section
variable {α κ : Type} {K : Kd α κ}
theorem Kd.later (K : Kd α κ) {w w' : World} {B : Nat} {x : α} {p : κ} (h : K.rd w B x p) (hb : Below w.heap.size w w') : K.rd w' B x p :=
 K.keep x p hb.size (fun b o v _ _ hc => cellb hb hc) h
theorem Kd.olater (K : Kd α κ) {w w' : World} {x : α} {p : κ} {F : List Nat} (h : K.ow w x p F) (hb : Below w.heap.size w w') : K.ow w' x p F :=
 K.okeep x p F (fun b hF => hb.block b (K.olt x p F h b hF)) h
def RdV (K : Kd α κ) (w : World) (B : Nat) (a : Option Addr) (l : List α) : Prop :=
 l = [] ∨ ∃ b off, a = some ⟨b, off, none⟩ ∧ B ≤ b ∧ b < w.heap.size ∧ ∀ i, i < l.length → ∃ p, w.rangeAt b (off + i * K.n) (K.cs (l.getD i K.z) p) ∧ K.rd w B (l.getD i K.z) p
theorem RdV.keep {w w' : World} {B : Nat} {a : Option Addr} {l : List α} (hs : w.heap.size ≤ w'.heap.size) (hc : ∀ b o v, B ≤ b → b < w.heap.size → w.cell? ⟨b, o, none⟩ = some v → w'.cell? ⟨b, o, none⟩ = some v) (h : RdV K w B a l) : RdV K w' B a l := by
 rcases h with h | ⟨b, off, ha, h1, h2, h3⟩
 · exact .inl h
 ·
  refine .inr ⟨b, off, ha, h1, Nat.lt_of_lt_of_le h2 hs, fun i hi => ?_⟩
  obtain ⟨p, c1, c2⟩ := h3 i hi
  exact ⟨p, fun j v hj => hc _ _ _ h1 h2 (c1 j v hj), K.keep _ _ hs hc c2⟩
theorem RdV.later {w w' : World} {B : Nat} {a : Option Addr} {l : List α} (h : RdV K w B a l) (hb : Below w.heap.size w w') : RdV K w' B a l :=
 h.keep hb.size (fun b o v _ _ hc => cellb hb hc)
theorem RdV.lower {w : World} {B C : Nat} {a : Option Addr} {l : List α} (h : RdV K w B a l) (hC : C ≤ B) : RdV K w C a l := by
 rcases h with h | ⟨b, off, ha, h1, h2, h3⟩
 · exact .inl h
 ·
  refine .inr ⟨b, off, ha, Nat.le_trans hC h1, h2, fun i hi => ?_⟩
  obtain ⟨p, c1, c2⟩ := h3 i hi
  exact ⟨p, c1, K.lower _ _ hC c2⟩
def OwV (K : Kd α κ) (w : World) (a : Option Addr) (l : List α) (F : List Nat) : Prop :=
 (l = [] ∧ F = []) ∨ ∃ (b : Nat) (cs : Array Value) (t : TypeId) (Fs : List (List Nat)), a = some ⟨b, 0, none⟩ ∧ w.heap[b]? = some (.cells cs t (0, 0)) ∧ l.length * K.n ≤ cs.size ∧ Fs.length = l.length ∧ F = b :: Fs.flatten ∧ ∀ i, i < l.length → ∃ p, (∀ j u, (K.cs (l.getD i K.z) p)[j]? = some u → cs[i * K.n + j]? = some u) ∧ K.ow w (l.getD i K.z) p (Fs.getD i [])
theorem OwV.keep {w w' : World} {a : Option Addr} {l : List α} {F : List Nat} (h : OwV K w a l F) (hk : ∀ b ∈ F, w'.heap[b]? = w.heap[b]?) : OwV K w' a l F := by
 rcases h with h | ⟨b, cs, t, Fs, ha, hh, hz, hF, rfl, h3⟩
 · exact .inl h
 ·
  refine .inr ⟨b, cs, t, Fs, ha, (hk b List.mem_cons_self).trans hh, hz, hF, rfl, fun i hi => ?_⟩
  obtain ⟨p, c1, c2⟩ := h3 i hi
  exact ⟨p, c1, K.okeep _ _ _ (fun b hb => hk b (List.mem_cons_of_mem _ (getD_flat hb))) c2⟩
theorem OwV.lt {w : World} {a : Option Addr} {l : List α} {F : List Nat} (h : OwV K w a l F) : ∀ b ∈ F, b < w.heap.size := by
 rcases h with ⟨_, rfl⟩ | ⟨b, cs, t, Fs, ha, hh, hz, hF, rfl, h3⟩
 · intro b hb; cases hb
 ·
  intro x hx
  rcases List.mem_cons.1 hx with rfl | hx
  · exact (Array.getElem?_eq_some_iff.1 hh).1
  ·
   obtain ⟨G, hG, hx⟩ := List.mem_flatten.1 hx
   obtain ⟨i, hi, rfl⟩ := List.getElem_of_mem hG
   obtain ⟨p, c1, c2⟩ := h3 i (hF ▸ hi)
   rw [List.getD_eq_getElem?_getD (l := Fs), List.getElem?_eq_getElem hi] at c2
   exact K.olt _ _ _ c2 _ hx
theorem OwV.later {w w' : World} {a : Option Addr} {l : List α} {F : List Nat} (h : OwV K w a l F) (hb : Below w.heap.size w w') : OwV K w' a l F :=
 h.keep fun b hF => hb.block b (h.lt b hF)
theorem OwV.rd {w : World} {B : Nat} {a : Option Addr} {l : List α} {F : List Nat} (h : OwV K w a l F) (hB : ∀ b ∈ F, B ≤ b) : RdV K w B a l := by
 rcases h with h | ⟨b, cs, t, Fs, ha, hh, hz, hF, rfl, h3⟩
 · exact .inl h.1
 ·
  refine .inr ⟨b, 0, ha, hB b List.mem_cons_self, (Array.getElem?_eq_some_iff.1 hh).1, fun i hi => ?_⟩
  obtain ⟨p, c1, c2⟩ := h3 i hi
  refine ⟨p, fun j u hj => ?_, K.ord _ _ _ (fun b hb => hB b (List.mem_cons_of_mem _ (getD_flat hb))) c2⟩
  rw [Nat.zero_add]
  exact (Lib.cell_of_heap hh _).trans (c1 j u hj)
def NewV (K : Kd α κ) (w : World) (B : Nat) (a : Option Addr) (l : List α) : Prop := ∃ F, OwV K w a l F ∧ F.Nodup ∧ ∀ b ∈ F, B ≤ b
def NewK (K : Kd α κ) (w : World) (B : Nat) (x : α) (p : κ) : Prop := ∃ F, K.ow w x p F ∧ F.Nodup ∧ ∀ b ∈ F, B ≤ b
theorem NewV.lower {w : World} {B C : Nat} {a : Option Addr} {l : List α} (h : NewV K w B a l) (hC : C ≤ B) : NewV K w C a l := by obtain ⟨F, h1, h2, h3⟩ := h; exact ⟨F, h1, h2, fun b hb => Nat.le_trans hC (h3 b hb)⟩
theorem NewK.rd {w : World} {B : Nat} {x : α} {p : κ} (h : NewK K w B x p) : K.rd w B x p := by obtain ⟨F, h1, _, h3⟩ := h; exact K.ord _ _ _ h3 h1
theorem newV_nil (w : World) (B : Nat) (a : Option Addr) : NewV K w B a [] := ⟨[], .inl ⟨rfl, rfl⟩, List.nodup_nil, fun b hb => by cases hb⟩
structure DnV (K : Kd α κ) (w wr : World) (g n : Nat) (l : List α) (k : Nat) (Fs : List (List Nat)) : Prop where
 fl : Fs.length = k
 nd : Fs.flatten.Nodup
 bd : ∀ b ∈ Fs.flatten, g < b ∧ b < wr.heap.size
 row : ∃ cs t, wr.heap[g]? = some (.cells cs t (0, 0)) ∧ n * K.n ≤ cs.size
 at_ : ∀ i, i < k → ∃ p, wr.rangeAt g (i * K.n) (K.cs (l.getD i K.z) p) ∧ K.ow wr (l.getD i K.z) p (Fs.getD i [])
 bel : Below w.heap.size w wr
 ge : w.heap.size ≤ g
theorem DnV.gl {w wr : World} {g n k : Nat} {l : List α} {Fs : List (List Nat)} (h : DnV K w wr g n l k Fs) : g < wr.heap.size := by
 obtain ⟨cs, t, hh, _⟩ := h.row
 exact (Array.getElem?_eq_some_iff.1 hh).1
theorem DnV.later {w wr w' : World} {g n k : Nat} {l : List α} {Fs : List (List Nat)} (h : DnV K w wr g n l k Fs) (hb : Below wr.heap.size wr w') : DnV K w w' g n l k Fs := by
 refine ⟨h.fl, h.nd, fun b hF => ⟨(h.bd b hF).1, Nat.lt_of_lt_of_le (h.bd b hF).2 hb.size⟩, ?_, fun i hi => ?_, h.bel.trans (hb.mono h.bel.size), h.ge⟩
 ·
  obtain ⟨cs, t, hh, hz⟩ := h.row
  exact ⟨cs, t, (hb.block g (Array.getElem?_eq_some_iff.1 hh).1).trans hh, hz⟩
 ·
  obtain ⟨p, c1, c2⟩ := h.at_ i hi
  exact ⟨p, fun j u hj => cellb hb (c1 j u hj), K.olater c2 hb⟩
theorem mul_in {i k n : Nat} (h : i < k) : i * n + n ≤ k * n := by
 have := Nat.mul_le_mul_right n (show i + 1 ≤ k from h)
 rwa [Nat.succ_mul] at this
theorem DnV.room {w wr : World} {g n k : Nat} {l : List α} {Fs : List (List Nat)} (h : DnV K w wr g n l k Fs) (hk : k < n) (vs : List Value) (hv : vs.length = K.n) : wr.there g (k * K.n) vs.length := fun j hj => by
 obtain ⟨cs, t, hh, hz⟩ := h.row
 have hm := mul_in (n := K.n) hk
 refine ⟨?_, Lib.frozen_of_heap hh _⟩
 rw [Lib.cell_of_heap hh, Array.getElem?_eq_getElem (by omega)]
 rfl
theorem DnV.put {w wr w2 : World} {g n k : Nat} {l : List α} {Fs : List (List Nat)} (h : DnV K w wr g n l k Fs) (hk : k < n) (hb : Below wr.heap.size wr w2) (p : κ) (hp : NewK K w2 wr.heap.size (l.getD k K.z) p) : ∃ F, DnV K w (w2.setCells g (k * K.n) (K.cs (l.getD k K.z) p)) g n l (k + 1) (Fs ++ [F]) := by
 obtain ⟨F, ho, hn, hF⟩ := hp
 have h2 := h.later hb
 have hg := h.gl
 have oth : ∀ b, b < w2.heap.size → b ≠ g → (w2.setCells g (k * K.n) (K.cs (l.getD k K.z) p)).heap[b]? = w2.heap[b]? := fun b hb' hne => World.heap_setCells_other w2 g _ _ hb' hne
 refine ⟨F, by rw [List.length_append, h.fl]; rfl, ?_, fun b hbF => ?_, ?_, fun i hi => ?_, bsets h.ge _ _ _ h2.bel, h.ge⟩
 ·
  rw [flat_snoc]
  exact nodup_snoc h.nd hn (fun x hx => (h.bd x hx).2) hF
 ·
  rw [ssets]
  rw [flat_snoc] at hbF
  rcases List.mem_append.1 hbF with hx | hx
  · exact h2.bd b hx
  · exact ⟨Nat.lt_of_lt_of_le hg (hF b hx), K.olt _ _ _ ho b hx⟩
 ·
  obtain ⟨cs, t, hh, hz⟩ := h2.row
  obtain ⟨C', e1, e2⟩ := rsets g t (K.cs (l.getD k K.z) p) (k * K.n) w2 cs hh
  exact ⟨C', t, e1, by rw [e2]; exact hz⟩
 ·
  by_cases hlt : i < k
  ·
   obtain ⟨q, c1, c2⟩ := h2.at_ i hlt
   rw [getD_snoc_lt (by rw [h.fl]; exact hlt)]
   refine ⟨q, World.rangeAt_setCells_apart c1 _ _ _ (.inr (.inl ?_)), K.okeep _ _ _ (fun b hb' => ?_) c2⟩
   ·
    rw [K.len]
    exact mul_in hlt
   ·
    have := h2.bd b (getD_flat hb')
    exact oth b this.2 (by omega)
  ·
   obtain rfl : i = k := by omega
   rw [getD_snoc_eq (by rw [h.fl])]
   refine ⟨p, World.rangeAt_setCells_same _ _ _ _ (h2.room hk _ (K.len _ _)), K.okeep _ _ _ (fun b hb' => ?_) ho⟩
   have := hF b hb'
   exact oth b (K.olt _ _ _ ho b hb') (by omega)
theorem DnV.done {w wr : World} {g : Nat} {l : List α} {Fs : List (List Nat)} (h : DnV K w wr g l.length l l.length Fs) : NewV K wr g (some ⟨g, 0, none⟩) l := by
 by_cases h0 : l = []
 ·
  subst h0
  exact newV_nil _ _ _
 obtain ⟨cs, t, hh, hz⟩ := h.row
 refine ⟨g :: Fs.flatten, .inr ⟨g, cs, t, Fs, rfl, hh, hz, h.fl, rfl, fun i hi => ?_⟩, List.nodup_cons.2 ⟨fun hg => Nat.lt_irrefl _ (h.bd g hg).1, h.nd⟩, fun b hb => ?_⟩
 ·
  obtain ⟨p, c1, c2⟩ := h.at_ i hi
  refine ⟨p, fun j u hj => ?_, c2⟩
  have := c1 j u hj
  rwa [Lib.cell_of_heap hh] at this
 ·
  rcases List.mem_cons.1 hb with rfl | hb
  · exact Nat.le_refl _
  · exact Nat.le_of_lt (h.bd b hb).1
theorem dnV_new {w w1 : World} {g n : Nat} {t : TypeId} {cs : List Value} (l : List α) (hown : w1.ownsRow w.heap.size t K.n (.slice (some ⟨g, 0, none⟩) n n) n cs) (hb : Below w.heap.size w w1) : DnV K w w1 g n l 0 [] := by
 obtain ⟨cur, hh, hz, _⟩ := ownsRow_heap hown
 exact ⟨rfl, List.nodup_nil, fun b hb => by simp at hb, ⟨cur, t, hh, hz⟩, fun i hi => by omega, hb, (World.ownsRow.lt hown g rfl).1⟩
section
variable {H : Type} {enc : TypeId × Value → H} {W : World} {base : Nat} {spare : TypeId → Bool} {held : Bool}
theorem trodV (K : Kd α κ) {fit : α → Prop} {P : Program} {t e : TypeId} (ht : P.underlying t = some (.slice e)) (hc : P.cellsOf e = K.n) (hn : 0 < K.n) (z0 : κ)
  (el : ∀ (fuel : Nat) (cs : List Value) (x : DataW H × List MemPlace), DataW.trod enc P W base spare held fuel e cs = some x → ∃ t p, cs = K.cs t p ∧ K.rd W 0 t p ∧ fit t) (fuel : Nat) (cs : List Value) (x : DataW H × List MemPlace)
  (hf : DataW.trod enc P W base spare held fuel t cs = some x) : ∃ (a : Option Addr) (cap : Nat) (l : List α), cs = [.slice a l.length cap] ∧ RdV K W 0 a l ∧ (∀ i, i < l.length → fit (l.getD i K.z)) ∧ l.length ≤ 9223372036854775807 := by
 rcases _root_.Go.Deep.open_slice ht hf with ⟨hcs, _⟩ | ⟨x, l, c, m, n, D, Pl, hcs, hb, hl, hm, hmm, hx, hel⟩
 · exact ⟨none, 0, [], hcs, .inl rfl, fun i hi => by simp at hi, by simp⟩
 ·
  have hlm : l ≤ m := by rw [hmm]; split <;> omega
  have each : ∀ i, i < l → ∃ t : α × κ, (∀ j u, (K.cs t.1 t.2)[j]? = some u → W.cell? (x.add (i * K.n + j)) = some u) ∧ K.rd W 0 t.1 t.2 ∧ fit t.1 := fun i hi => by
   obtain ⟨cs', h1, h2⟩ := hel i (by omega)
   rw [hc] at h1
   obtain ⟨_, hlen, hcell⟩ := World.cells?_some h1
   obtain ⟨t, q, hcs', hr, hf'⟩ := el _ _ _ h2
   refine ⟨(t, q), fun j u hj => ?_, hr, hf'⟩
   have hj17 : j < K.n := by
    have := (List.getElem?_eq_some_iff.1 hj).1
    rwa [K.len] at this
   have e := hcell j (by omega)
   rw [_root_.Go.Deep.add_add] at e
   refine e.trans ?_
   rw [← hj, hcs']
  obtain ⟨T, hT⟩ := @_root_.Go.Deep.choose_lt (α × κ) ⟨(K.z, z0)⟩ _ _ each
  have hlen : ((List.range l).map fun i => (T i).1).length = l := by simp
  have hat : ∀ i, i < l → ((List.range l).map fun i => (T i).1).getD i K.z = (T i).1 := fun i hi => by
   rw [List.getD_eq_getElem?_getD, List.getElem?_map, List.getElem?_range hi]
   rfl
  refine ⟨some x, c, (List.range l).map fun i => (T i).1, by rw [hlen]; exact hcs, ?_, fun i hi => ?_, ?_⟩
  ·
   by_cases h0 : l = 0
   · subst h0; exact .inl rfl
   ·
    right
    obtain ⟨b, off, spot⟩ := x
    have h1 := (hT 0 (by omega)).1 0 ((K.cs (T 0).1 (T 0).2)[0]'(by rw [K.len]; exact hn)) (List.getElem?_eq_getElem _)
    have hspot : spot = none := by simpa [Addr.add] using World.cell?_spot h1
    subst hspot
    have hadd : ∀ j, (⟨b, off, none⟩ : Addr).add j = ⟨b, off + j, none⟩ := fun j => by
     unfold Addr.add
     by_cases hj : j = 0
     · subst hj; simp
     · simp [hj]
    have hbl : b < W.heap.size := by
     have := World.block_lt_of_cell? W _ h1
     rwa [hadd] at this
    refine ⟨b, off, rfl, Nat.zero_le _, hbl, fun i hi => ?_⟩
    rw [hlen] at hi
    rw [hat i hi]
    refine ⟨(T i).2, fun j u hj => ?_, (hT i hi).2.1⟩
    have h3 := (hT i hi).1 j u hj
    rw [hadd, ← Nat.add_assoc] at h3
    exact h3
  ·
   rw [hlen] at hi
   rw [hat i hi]
   exact (hT i hi).2.2
  · rw [hlen]; unfold maxLen at hm; omega
end
end
end
def EqP (e : Ex) : Prop := ∀ (a b : Option Addr) (c1 c2 : Nat) (w : World), RdX w 0 e a → RdX w 0 e b → e.sz ≤ 1048576 → Calls Tryd.prog 53 #[.agg (e.cs a c1), .agg (e.cs b c2)] w fun r w' => r = .returned (.bool true) ∧ Below w.heap.size w w'
theorem eqXS_of (e : Ex) (ih : ∀ i, i < e.l.length → EqP (xAt e.l i)) (a b : Option Addr) (c1 c2 : Nat) (w : World) (h1 : RdX w 0 e a) (h2 : RdX w 0 e b) (hz : e.sz ≤ 1048576) :
  Calls Tryd.prog 52 #[.slice a e.l.length c1, .slice b e.l.length c2] w fun r w' => r = .returned (.bool true) ∧ Below w.heap.size w w' := by
 have hsz := sz_is e
 rw [RdX_eq] at h1 h2
 have hp : ∀ i, i < e.l.length → (xAt e.l i).sz ≤ 1048576 := fun i hi => by have := sz_part hi; omega
 have hm : e.l.length ≤ 1048576 := by omega
 clear hsz hz
 generalize e.l = l at *
 obtain ⟨len, hl⟩ : ∃ len, l.length = len := ⟨_, rfl⟩
 rw [hl] at hm ih h1 h2 hp ⊢
 go_enter Tryd.func52, Tryd.ntmps52
 go_wp2
 go_loopw [5] (fun i wr => ∃ (k : Nat) (y : Sub w.heap.size w), k ≤ len ∧ i = .int .i64 k ∧ wr = y.w) (fun i _ => len - (intOf i).toNat)
 case atStart => exact ⟨0, ⟨w, Below.refl _ _⟩, Nat.zero_le _, rfl, rfl⟩
 case round =>
  obtain ⟨k, x, hk, rfl, rfl⟩ := hrel
  by_cases hlt : k < len
  ·
   rcases h1 with h0 | ⟨p, po, rfl, _, hp1, hpc⟩
   · rw [h0] at hl; simp at hl; omega
   rcases h2 with h0 | ⟨q, qo, rfl, _, hq1, hqc⟩
   · rw [h0] at hl; simp at hl; omega
   obtain ⟨e0, e1, e2, pc, pp, e3, e4⟩ := hpc k (by omega)
   obtain ⟨g0, g1, g2, qc, qp, g3, g4⟩ := hqc k (by omega)
   have d0 : ∀ y : Sub w.heap.size w, y.w.cell? ⟨p, po + k * 4, none⟩ = _ := fun y => (y.h.cell (p := ⟨p, _, none⟩) hp1).trans e0
   have d1 : ∀ y : Sub w.heap.size w, y.w.cell? ⟨p, po + k * 4 + 1, none⟩ = _ := fun y => (y.h.cell (p := ⟨p, _, none⟩) hp1).trans e1
   have d2 : ∀ y : Sub w.heap.size w, y.w.cell? ⟨p, po + k * 4 + 2, none⟩ = _ := fun y => (y.h.cell (p := ⟨p, _, none⟩) hp1).trans e2
   have d3 : ∀ y : Sub w.heap.size w, y.w.cell? ⟨p, po + k * 4 + 3, none⟩ = _ := fun y => (y.h.cell (p := ⟨p, _, none⟩) hp1).trans e3
   have f0 : ∀ y : Sub w.heap.size w, y.w.cell? ⟨q, qo + k * 4, none⟩ = _ := fun y => (y.h.cell (p := ⟨q, _, none⟩) hq1).trans g0
   have f1 : ∀ y : Sub w.heap.size w, y.w.cell? ⟨q, qo + k * 4 + 1, none⟩ = _ := fun y => (y.h.cell (p := ⟨q, _, none⟩) hq1).trans g1
   have f2 : ∀ y : Sub w.heap.size w, y.w.cell? ⟨q, qo + k * 4 + 2, none⟩ = _ := fun y => (y.h.cell (p := ⟨q, _, none⟩) hq1).trans g2
   have f3 : ∀ y : Sub w.heap.size w, y.w.cell? ⟨q, qo + k * 4 + 3, none⟩ = _ := fun y => (y.h.cell (p := ⟨q, _, none⟩) hq1).trans g3
   have HE := hide (fun y : Sub w.heap.size w => ih k hlt pc qc pp qp y.w (e4.later y.h) (g4.later y.h) (hp k hlt))
   have ne := Sub.ne w.heap.size w
   have HZ := hide (Nat.le_refl w.heap.size)
   clear e0 e1 e2 e3 e4 g0 g1 g2 g3 g4 hpc hqc ih hp
   unfold Ex.cs at HE
   generalize (xAt l k).s = ss at *
   generalize (xAt l k).k = kk at *
   generalize (xAt l k).n = nn at *
   generalize (xAt l k).l.length = ll at *
   go_wp2_with fail
   refine wp_region_sub x (by kernel_rfl) (by kernel_rfl) ?_
   repeat (go_big_quiet_step (first | (go_at_call 53; exact Sub.call (uh HZ) (uh HE _))))
   refine wpQuiet_nil ?_
   intro y
   go_wp2
   go_roundw
   case rel => exact ⟨k + 1, y, by omega, by go_num, rfl⟩
   case measure => simp [intOf]; omega
  ·
   go_wp2
   go_ret
   exact ⟨rfl, x.h⟩
theorem eqX_same (e : Ex) : EqP e := by
 induction e using Ex.ind with
 | h k n s l ih =>
  intro a b c1 c2 w h1 h2 hz
  have e2 : (Ex.mk k n s l).l = l := rfl
  have hbW : Below w.heap.size w ((w.alloc (.cells #[.int .i64 k, .int .i64 n, .string s, .slice a l.length c1] 43)).alloc (.cells #[.int .i64 k, .int .i64 n, .string s, .slice b l.length c2] 43)) := ((Below.refl _ _).alloc (Nat.le_refl _) _).alloc (by simp) _
  have HZ := eqXS_of ⟨k, n, s, l⟩ (fun i hi => ih _ (xAt_mem hi)) a b c1 c2 _ (h1.later hbW) (h2.later hbW) hz
  rw [e2] at HZ
  have HS := hide (HZ.mono (R' := fun r w' => r = .returned (.bool true) ∧ Below w.heap.size w w') (by rintro r w' ⟨rfl, h⟩; exact ⟨rfl, hbW.trans (h.mono hbW.size)⟩))
  unfold Ex.cs
  simp only
  clear h1 h2 hz ih HZ hbW e2
  generalize l.length = ll at *
  go_enter Tryd.func53, Tryd.ntmps53
  go_wp2_with (go_at_call 52; refine (uh HS).mono ?_; rintro e w1 ⟨rfl, hb1⟩)
  go_ret
  exact ⟨rfl, hb1⟩
structure Pl where
 b : Option Addr
 c : Nat
structure Se where
 s : ByteArray
 o : Bool
 l : List Ex
def Se.e (x : Se) : Ex := ⟨0, 0, E0, x.l⟩
structure Gl where
 s : ByteArray
 e : Ex
def KSe : Kd Se Pl where
 n := 3
 z := ⟨E0, false, []⟩
 cs x p := [.string x.s, .bool x.o, .slice p.b x.l.length p.c]
 len _ _ := rfl
 rd w B x p := RdX w B x.e p.b
 keep x p hs hc h := RdX.keep hs hc _ _ h
 lower x p hC h := RdX.lower hC _ _ h
 ow w x p F := OwX w x.e p.b F
 okeep x p F hk h := OwX.keep _ _ _ hk h
 olt x p F h := OwX.lt _ _ _ h
 ord x p F hB h := OwX.rd _ _ _ hB h
def KGl : Kd Gl Pl where
 n := 5
 z := ⟨E0, X0⟩
 cs x p := [.string x.s, .int .i64 x.e.k, .int .i64 x.e.n, .string x.e.s, .slice p.b x.e.l.length p.c]
 len _ _ := rfl
 rd w B x p := RdX w B x.e p.b
 keep x p hs hc h := RdX.keep hs hc _ _ h
 lower x p hC h := RdX.lower hC _ _ h
 ow w x p F := OwX w x.e p.b F
 okeep x p F hk h := OwX.keep _ _ _ hk h
 olt x p F h := OwX.lt _ _ _ h
 ord x p F hB h := OwX.rd _ _ _ hB h
structure Ob where
 ss : List Se
 gs : List Gl
structure Po where
 a : Pl
 b : Pl
def KOb : Kd Ob Po where
 n := 2
 z := ⟨[], []⟩
 cs x p := [.slice p.a.b x.ss.length p.a.c, .slice p.b.b x.gs.length p.b.c]
 len _ _ := rfl
 rd w B x p := RdV KSe w B p.a.b x.ss ∧ RdV KGl w B p.b.b x.gs
 keep x p hs hc h := ⟨h.1.keep hs hc, h.2.keep hs hc⟩
 lower x p hC h := ⟨h.1.lower hC, h.2.lower hC⟩
 ow w x p F := ∃ F1 F2, F = F1 ++ F2 ∧ OwV KSe w p.a.b x.ss F1 ∧ OwV KGl w p.b.b x.gs F2
 okeep x p F hk h := by
  obtain ⟨F1, F2, rfl, h1, h2⟩ := h
  exact ⟨F1, F2, rfl, h1.keep fun b hb => hk b (List.mem_append_left _ hb), h2.keep fun b hb => hk b (List.mem_append_right _ hb)⟩
 olt x p F h := by
  obtain ⟨F1, F2, rfl, h1, h2⟩ := h
  intro b hb
  rcases List.mem_append.1 hb with hb | hb
  · exact h1.lt b hb
  · exact h2.lt b hb
 ord x p F hB h := by
  obtain ⟨F1, F2, rfl, h1, h2⟩ := h
  exact ⟨h1.rd fun b hb => hB b (List.mem_append_left _ hb), h2.rd fun b hb => hB b (List.mem_append_right _ hb)⟩
def Se.zz (x : Se) : Nat := x.s.size + (x.l.length + szX x.l)
def Gl.zz (x : Gl) : Nat := x.s.size + x.e.sz
def sumV {α : Type} (f : α → Nat) (l : List α) : Nat := l.length + (l.map f).sum
def Ob.zz (x : Ob) : Nat := sumV Se.zz x.ss + sumV Gl.zz x.gs
def Se.fit (x : Se) : Prop := x.s.size ≤ 9223372036854775807 ∧ Fit x.e
def Gl.fit (x : Gl) : Prop := x.s.size ≤ 9223372036854775807 ∧ Fit x.e
structure Ob.fit (x : Ob) : Prop where
 s : ∀ i, i < x.ss.length → (x.ss.getD i KSe.z).fit
 g : ∀ i, i < x.gs.length → (x.gs.getD i KGl.z).fit
 ns : x.ss.length ≤ 9223372036854775807
 ng : x.gs.length ≤ 9223372036854775807
theorem sum_take {α : Type} (f : α → Nat) (z : α) (l : List α) (k : Nat) (h : k < l.length) : ((l.take (k + 1)).map f).sum = ((l.take k).map f).sum + f (l.getD k z) := by
 rw [List.take_succ_eq_append_getElem h, List.map_append, List.sum_append, List.getD_eq_getElem?_getD, List.getElem?_eq_getElem h]
 simp
theorem sum_le {α : Type} (f : α → Nat) (l : List α) (k : Nat) : ((l.take k).map f).sum ≤ (l.map f).sum := by
 induction l generalizing k with
 | nil => simp
 | cons a r ih =>
  cases k with
  | zero => simp
  | succ k =>
   have := ih k
   simp only [List.take_succ_cons, List.map_cons, List.sum_cons]
   omega
theorem sum_at {α : Type} (f : α → Nat) (z : α) (l : List α) (k : Nat) (h : k < l.length) : f (l.getD k z) ≤ (l.map f).sum := by
 have h1 := sum_take f z l k h
 have h2 := sum_le f l (k + 1)
 omega
def topB (k m n : Int) : Bool := k != 2 && (k != 3 && (k != 11 || decide (m < n)))
def trB (n : Int) : Ex → Bool
 | ⟨k, m, _, l⟩ => (l.map (trB n)).all id && topB k m n
theorem trB_eq (n : Int) (e : Ex) : trB n e = ((e.l.map (trB n)).all id && topB e.k e.n n) := by
 obtain ⟨k, m, s, l⟩ := e
 rw [trB]
theorem trB_no {n : Int} {e : Ex} {i : Nat} (h : i < e.l.length) (hf : trB n (xAt e.l i) = false) : trB n e = false := by
 rw [trB_eq]
 have : (e.l.map (trB n)).all id = false := by
  rw [List.all_eq_false]
  refine ⟨trB n (xAt e.l i), List.mem_map_of_mem (xAt_mem h), ?_⟩
  rw [hf]
  decide
 rw [this]
 rfl
theorem trB_yes {n : Int} {e : Ex} (h : ∀ i, i < e.l.length → trB n (xAt e.l i) = true) : trB n e = topB e.k e.n n := by
 rw [trB_eq]
 have : (e.l.map (trB n)).all id = true := by
  rw [List.all_eq_true]
  intro q hq
  obtain ⟨x, hx, rfl⟩ := List.mem_map.1 hq
  obtain ⟨i, hi, rfl⟩ := List.getElem_of_mem hx
  have := h i hi
  rw [xAt_get hi] at this
  exact this
 rw [this]
 simp
def TrP (e : Ex) : Prop := ∀ (b : Option Addr) (cap : Nat) (n : Int) (w : World), RdX w 0 e b → e.sz ≤ 1048576 → Calls Tryd.prog 25 #[.agg (e.cs b cap), .int .i64 n] w fun r w' => r = .returned (.bool (trB n e)) ∧ Below w.heap.size w w'
theorem trS_of (e : Ex) (ih : ∀ i, i < e.l.length → TrP (xAt e.l i)) : TrP e := by
 intro b cap n w hr hz
 have hsz := sz_is e
 have hbW := below_new w (.cells (e.cs b cap) 43)
 obtain ⟨W, hW⟩ : ∃ W, w.alloc (.cells (e.cs b cap) 43) = W := ⟨_, rfl⟩
 have hrW := hr.later hbW
 have hg0 : W.heap[w.heap.size]? = some (.cells (e.cs b cap) 43 (0, 0)) := by rw [← hW]; exact heap_alloc_new w _
 rw [hW] at hbW hrW
 obtain ⟨z, hz0⟩ : ∃ z : Sub W.heap.size W, w.alloc (.cells (e.cs b cap) 43) = z.w := ⟨⟨W, Below.refl _ _⟩, hW⟩
 have xc : ∀ (i : Nat) (v : Value), (e.cs b cap)[i]? = some v → ∀ y : Sub W.heap.size W, y.w.cell? ⟨w.heap.size, i, none⟩ = some v := fun i v h y => cellb y.h ((Lib.cell_of_heap hg0 i).trans h)
 have ne := Sub.ne W.heap.size W
 have HZ := hide (Nat.le_refl W.heap.size)
 have HB := hide (fun y : Sub W.heap.size W => hbW.trans (y.h.mono hbW.size))
 have HR := hide ((RdX_eq _ _ _ _).1 hrW)
 have HS := hide (fun i (hi : i < e.l.length) => (show (xAt e.l i).sz ≤ 1048576 from by have := sz_part hi; omega))
 have hm : e.l.length ≤ 1048576 := by omega
 obtain ⟨D, hD⟩ : ∃ D, trB n e = D := ⟨_, rfl⟩
 have NO := hide (fun i h hf => (trB_no (n := n) (e := e) (i := i) h hf).symm.trans hD)
 have YES := hide (fun h => (trB_yes (n := n) (e := e) h).symm.trans hD)
 have E0 := xc 0 (.int .i64 e.k) rfl
 have E1 := xc 1 (.int .i64 e.n) rfl
 have E3 := xc 3 (.slice b e.l.length cap) rfl
 rw [hD]
 unfold Ex.cs at hz0 ⊢
 clear xc hg0 hr hz hsz hrW hbW hW hD
 generalize e.k = ek at *
 generalize e.n = en at *
 generalize e.s = es at *
 generalize e.l = l at *
 obtain ⟨len, hlen⟩ : ∃ len, l.length = len := ⟨_, rfl⟩
 rw [hlen] at hm E3 hz0 ⊢
 go_enter Tryd.func25, Tryd.ntmps25
 go_wp2
 go_loopw [5] (fun iv wr => ∃ (i : Nat) (y : Sub W.heap.size W), i ≤ len ∧ iv = .int .i64 i ∧ wr = y.w ∧ Hid (∀ j, j < i → trB n (xAt l j) = true)) (fun iv _ => len - (intOf iv).toNat)
 case atStart => exact ⟨0, z, Nat.zero_le _, rfl, rfl, fun j hj => by omega⟩
 case round =>
  obtain ⟨i, y, hi, rfl, rfl, hd⟩ := hrel
  have e0 := E0 y
  have e1 := E1 y
  have e3 := E3 y
  by_cases hlt : i < len
  ·
   have hil : i < l.length := by omega
   obtain ⟨g, off, rfl, _, hg, ra⟩ := (uh HR).resolve_left (fun e => by rw [e] at hlen; simp at hlen; omega)
   obtain ⟨q0, q1, q2, c, cp, q3, q4⟩ := ra i hil
   have d0 := cellb y.h q0
   have d1 := cellb y.h q1
   have d2 := cellb y.h q2
   have d3 := cellb y.h q3
   have HC := hide (ih i hil c cp n y.w (q4.later y.h) (uh HS i hil))
   have N1 := hide (uh NO i hil)
   have Y1 := hide (show trB n (xAt l i) = true → ∀ j, j < i + 1 → trB n (xAt l j) = true from fun h j hj => by
    by_cases e : j = i
    · subst e; exact h
    · exact hd.out j (by omega))
   unfold Ex.cs at HC
   clear ra q0 q1 q2 q3 q4 hd ih HR HS
   generalize trB n (xAt l i) = T at *
   generalize (xAt l i).k = xk at *
   generalize (xAt l i).n = xn at *
   generalize (xAt l i).s = xs at *
   generalize (xAt l i).l.length = xl at *
   cases T
   ·
    have E := hide (uh N1 rfl)
    clear N1 Y1
    go_wp2_with fail
    refine (Sub.call (uh HZ) (uh HC)).mono ?_
    rintro r _ ⟨rfl, y2, rfl⟩
    go_wp2
    go_ret
    exact ⟨by rw [← uh E]; rfl, uh HB y2⟩
   ·
    have E := hide (uh Y1 rfl)
    clear N1 Y1
    go_wp2_with fail
    refine (Sub.call (uh HZ) (uh HC)).mono ?_
    rintro r _ ⟨rfl, y2, rfl⟩
    go_wp2
    go_roundw
    case rel => exact ⟨i + 1, y2, by omega, by go_num, rfl, uh E⟩
    case measure => simp [intOf]; omega
  ·
   obtain rfl : i = len := by omega
   have E := hide (uh YES (fun j hj => hd.out j (by omega)))
   have TB := hide (show topB ek en n = (ek != 2 && (ek != 3 && (ek != 11 || decide (en < n)))) from rfl)
   clear hd ih HR HS NO YES
   by_cases h2 : ek = 2
   ·
    subst h2
    go_wp2
    go_ret
    exact ⟨by rw [← uh E]; rfl, uh HB y⟩
   by_cases h3 : ek = 3
   ·
    subst h3
    go_wp2
    go_ret
    exact ⟨by rw [← uh E]; rfl, uh HB y⟩
   by_cases h11 : ek = 11
   ·
    subst h11
    by_cases hlt2 : en < n
    ·
     have V : D = true := by rw [← uh E, uh TB]; simp [hlt2]
     go_wp2
     go_ret
     exact ⟨by first | rfl | (rw [V]; rfl) | (show Ending.returned (.bool (ek != 2 && ek != 3)) = _; rw [V, show (ek != 2 && ek != 3) = true by simp [h2, h3]]), uh HB y⟩
    ·
     have V : D = false := by rw [← uh E, uh TB]; simp [hlt2]
     go_wp2
     go_ret
     exact ⟨by first | rfl | (rw [V]; rfl) | (show Ending.returned (.bool (ek != 2 && ek != 3)) = _; rw [V, show (ek != 2 && ek != 3) = true by simp [h2, h3]]), uh HB y⟩
   ·
    have V : D = true := by rw [← uh E, uh TB]; simp [h2, h3, h11]
    go_wp2
    go_ret
    exact ⟨by first | rfl | (rw [V]; rfl) | (show Ending.returned (.bool (ek != 2 && ek != 3)) = _; rw [V, show (ek != 2 && ek != 3) = true by simp [h2, h3]]), uh HB y⟩
theorem trS_any (e : Ex) : TrP e := by
 induction e using Ex.ind with
 | h k n s l ih => exact trS_of _ (fun i hi => ih _ (xAt_mem hi))
theorem ofm_num (n : Int) (m : Int) (w : World) : Calls Tryd.prog 51 #[.iface 115 (.agg #[.int .i64 n]), .int .i64 m] w fun r w' => r = .returned (.bool true) ∧ Below w.heap.size w w' := by
 have t1 := taN_sym 115 (.agg #[.int .i64 n]) (by decide)
 have t2 := taN_here 115 (.agg #[.int .i64 n]) (by decide)
 have t3 := taN_sect 115 (.agg #[.int .i64 n]) (by decide)
 have me := me_num (.int .i64 n)
 have P0 := hide (parts0 w)
 go_enter Tryd.func51, Tryd.ntmps51
 go_wp2_with (go_at_call 93; refine (uh P0).mono ?_; rintro r w1 ⟨rfl, hb⟩)
 refine wp_loop_rounds 1 ?_
 rw [rounds_succ]
 go_wp2
 go_ret
 exact ⟨rfl, hb⟩
theorem ofm_glob (s : ByteArray) (m : Int) (w : World) : Calls Tryd.prog 51 #[.iface 116 (.agg #[.string s]), .int .i64 m] w fun r w' => r = .returned (.bool true) ∧ Below w.heap.size w w' := by
 have t1 := taN_sym 116 (.agg #[.string s]) (by decide)
 have t2 := taN_here 116 (.agg #[.string s]) (by decide)
 have t3 := taN_sect 116 (.agg #[.string s]) (by decide)
 have me := me_glob (.string s)
 have P0 := hide (parts0 w)
 go_enter Tryd.func51, Tryd.ntmps51
 go_wp2_with (go_at_call 93; refine (uh P0).mono ?_; rintro r w1 ⟨rfl, hb⟩)
 refine wp_loop_rounds 1 ?_
 rw [rounds_succ]
 go_wp2
 go_ret
 exact ⟨rfl, hb⟩
theorem ofm_sym (s : ByteArray) (m : Int) (w : World) : Calls Tryd.prog 51 #[.iface 107 (.agg #[.string s]), .int .i64 m] w fun r w' => r = .returned (.bool false) ∧ Below w.heap.size w w' := by
 have t1 := taY_sym (.agg #[.string s])
 have t2 := taN_here 107 (.agg #[.string s]) (by decide)
 have t3 := taN_sect 107 (.agg #[.string s]) (by decide)
 go_enter Tryd.func51, Tryd.ntmps51
 go_wp2
 go_ret
 exact ⟨rfl, by first | exact Below.refl _ _ | exact below_new _ _⟩
theorem ofm_here (m : Int) (w : World) : Calls Tryd.prog 51 #[.iface 109 (.agg #[]), .int .i64 m] w fun r w' => r = .returned (.bool false) ∧ Below w.heap.size w w' := by
 have t1 := taN_sym 109 (.agg #[]) (by decide)
 have t2 := taY_here (.agg #[])
 have t3 := taN_sect 109 (.agg #[]) (by decide)
 go_enter Tryd.func51, Tryd.ntmps51
 go_wp2
 go_ret
 exact ⟨rfl, by first | exact Below.refl _ _ | exact below_new _ _⟩
theorem ofm_sect (n : Int) (m : Int) (w : World) : Calls Tryd.prog 51 #[.iface 111 (.agg #[.int .i64 n]), .int .i64 m] w fun r w' => r = .returned (.bool (decide (n < m))) ∧ Below w.heap.size w w' := by
 have t1 := taN_sym 111 (.agg #[.int .i64 n]) (by decide)
 have t2 := taN_here 111 (.agg #[.int .i64 n]) (by decide)
 have t3 := taY_sect (.agg #[.int .i64 n])
 go_enter Tryd.func51, Tryd.ntmps51
 go_wp2
 go_ret
 exact ⟨rfl, by first | exact Below.refl _ _ | exact below_new _ _⟩
theorem ofm_neg (m : Int) (t : TypeId) (x : Value) (q1 : Bool) (h1 : ∀ w : World, Calls Tryd.prog 51 #[.iface t x, .int .i64 m] w fun r w' => r = .returned (.bool q1) ∧ Below w.heap.size w w') (w : World) : Calls Tryd.prog 51 #[.iface 96 (.agg #[.iface t x]), .int .i64 m] w fun r w' => r = .returned (.bool q1) ∧ Below w.heap.size w w' := by
 have t1 := taN_sym 96 (.agg #[.iface t x]) (by decide)
 have t2 := taN_here 96 (.agg #[.iface t x]) (by decide)
 have t3 := taN_sect 96 (.agg #[.iface t x]) (by decide)
 have me := me_neg (.iface t x)
 have P1 := hide (parts1 t x w)
 have H1 := hide h1
 clear h1
 go_enter Tryd.func51, Tryd.ntmps51
 go_wp2_with (go_at_call 91; refine (uh P1).mono ?_; rintro r w1 ⟨g, rfl, hg, hb⟩)
 have c0 := Lib.cell_of_heap hg 0
 have B1 := hide hb
 have H2 := hide (uh H1 w1)
 clear hg hb P1
 refine wp_loop_rounds 2 ?_
 rw [rounds_succ]
 go_wp2_with fail
 refine (uh H2).mono ?_
 rintro r w2 ⟨rfl, hb2⟩
 have B2 := hide ((uh B1).trans (hb2.mono (uh B1).size))
 clear hb2 c0 H2 H1
 cases q1 with
 | false =>
  go_wp2
  go_ret
  exact ⟨rfl, uh B2⟩
 | true =>
  go_wp2
  rw [rounds_succ]
  go_wp2
  go_ret
  exact ⟨rfl, uh B2⟩
theorem ofm_add (m : Int) (t u : TypeId) (x y : Value) (q1 q2 : Bool) (h1 : ∀ w : World, Calls Tryd.prog 51 #[.iface t x, .int .i64 m] w fun r w' => r = .returned (.bool q1) ∧ Below w.heap.size w w') (h2 : ∀ w : World, Calls Tryd.prog 51 #[.iface u y, .int .i64 m] w fun r w' => r = .returned (.bool q2) ∧ Below w.heap.size w w') (w : World) : Calls Tryd.prog 51 #[.iface 118 (.agg #[.iface t x, .iface u y]), .int .i64 m] w fun r w' => r = .returned (.bool (q1 && q2)) ∧ Below w.heap.size w w' := by
 have t1 := taN_sym 118 (.agg #[.iface t x, .iface u y]) (by decide)
 have t2 := taN_here 118 (.agg #[.iface t x, .iface u y]) (by decide)
 have t3 := taN_sect 118 (.agg #[.iface t x, .iface u y]) (by decide)
 have me := me_add (.iface t x) (.iface u y)
 have P1 := hide (parts2 t u x y w)
 have H1 := hide h1
 have H3 := hide h2
 clear h1 h2
 obtain ⟨T, hT⟩ : ∃ T, (q1 && q2) = T := ⟨_, rfl⟩
 have HT := hide hT
 rw [hT]
 clear hT
 go_enter Tryd.func51, Tryd.ntmps51
 go_wp2_with (go_at_call 92; refine (uh P1).mono ?_; rintro r w1 ⟨g, rfl, hg, hb⟩)
 have c0 := Lib.cell_of_heap hg 0
 have c1 := hide (Lib.cell_of_heap hg 1)
 have gl := hide (Array.getElem?_eq_some_iff.1 hg).1
 have B1 := hide hb
 have H2 := hide (uh H1 w1)
 clear hg hb P1
 refine wp_loop_rounds 3 ?_
 rw [rounds_succ]
 go_wp2_with fail
 refine (uh H2).mono ?_
 rintro r w2 ⟨rfl, hb2⟩
 have B2 := hide ((uh B1).trans (hb2.mono (uh B1).size))
 have d1 := (hb2.cell (p := ⟨g, 1, none⟩) (uh gl)).trans (uh c1)
 clear hb2 c0 c1 H2 H1 gl
 cases q1 with
 | false =>
  have E := hide ((uh HT).symm.trans (Bool.false_and _))
  go_wp2
  go_ret
  exact ⟨by rw [uh E]; rfl, uh B2⟩
 | true =>
  have E := hide ((uh HT).symm.trans (Bool.true_and _))
  have H4 := hide (uh H3 w2)
  go_wp2
  rw [rounds_succ]
  go_wp2_with fail
  refine (uh H4).mono ?_
  rintro r w3 ⟨rfl, hb3⟩
  have B3 := hide ((uh B2).trans (hb3.mono (uh B2).size))
  clear hb3 d1 H4 H3
  cases q2 with
  | false =>
   go_wp2
   go_ret
   exact ⟨by rw [uh E]; rfl, uh B3⟩
  | true =>
   go_wp2
   rw [rounds_succ]
   go_wp2
   go_ret
   exact ⟨by rw [uh E]; rfl, uh B3⟩
theorem ofm_sub (m : Int) (t u : TypeId) (x y : Value) (q1 q2 : Bool) (h1 : ∀ w : World, Calls Tryd.prog 51 #[.iface t x, .int .i64 m] w fun r w' => r = .returned (.bool q1) ∧ Below w.heap.size w w') (h2 : ∀ w : World, Calls Tryd.prog 51 #[.iface u y, .int .i64 m] w fun r w' => r = .returned (.bool q2) ∧ Below w.heap.size w w') (w : World) : Calls Tryd.prog 51 #[.iface 119 (.agg #[.iface t x, .iface u y]), .int .i64 m] w fun r w' => r = .returned (.bool (q1 && q2)) ∧ Below w.heap.size w w' := by
 have t1 := taN_sym 119 (.agg #[.iface t x, .iface u y]) (by decide)
 have t2 := taN_here 119 (.agg #[.iface t x, .iface u y]) (by decide)
 have t3 := taN_sect 119 (.agg #[.iface t x, .iface u y]) (by decide)
 have me := me_sub (.iface t x) (.iface u y)
 have P1 := hide (parts2 t u x y w)
 have H1 := hide h1
 have H3 := hide h2
 clear h1 h2
 obtain ⟨T, hT⟩ : ∃ T, (q1 && q2) = T := ⟨_, rfl⟩
 have HT := hide hT
 rw [hT]
 clear hT
 go_enter Tryd.func51, Tryd.ntmps51
 go_wp2_with (go_at_call 92; refine (uh P1).mono ?_; rintro r w1 ⟨g, rfl, hg, hb⟩)
 have c0 := Lib.cell_of_heap hg 0
 have c1 := hide (Lib.cell_of_heap hg 1)
 have gl := hide (Array.getElem?_eq_some_iff.1 hg).1
 have B1 := hide hb
 have H2 := hide (uh H1 w1)
 clear hg hb P1
 refine wp_loop_rounds 3 ?_
 rw [rounds_succ]
 go_wp2_with fail
 refine (uh H2).mono ?_
 rintro r w2 ⟨rfl, hb2⟩
 have B2 := hide ((uh B1).trans (hb2.mono (uh B1).size))
 have d1 := (hb2.cell (p := ⟨g, 1, none⟩) (uh gl)).trans (uh c1)
 clear hb2 c0 c1 H2 H1 gl
 cases q1 with
 | false =>
  have E := hide ((uh HT).symm.trans (Bool.false_and _))
  go_wp2
  go_ret
  exact ⟨by rw [uh E]; rfl, uh B2⟩
 | true =>
  have E := hide ((uh HT).symm.trans (Bool.true_and _))
  have H4 := hide (uh H3 w2)
  go_wp2
  rw [rounds_succ]
  go_wp2_with fail
  refine (uh H4).mono ?_
  rintro r w3 ⟨rfl, hb3⟩
  have B3 := hide ((uh B2).trans (hb3.mono (uh B2).size))
  clear hb3 d1 H4 H3
  cases q2 with
  | false =>
   go_wp2
   go_ret
   exact ⟨by rw [uh E]; rfl, uh B3⟩
  | true =>
   go_wp2
   rw [rounds_succ]
   go_wp2
   go_ret
   exact ⟨by rw [uh E]; rfl, uh B3⟩
theorem ofm_mul (m : Int) (t u : TypeId) (x y : Value) (q1 q2 : Bool) (h1 : ∀ w : World, Calls Tryd.prog 51 #[.iface t x, .int .i64 m] w fun r w' => r = .returned (.bool q1) ∧ Below w.heap.size w w') (h2 : ∀ w : World, Calls Tryd.prog 51 #[.iface u y, .int .i64 m] w fun r w' => r = .returned (.bool q2) ∧ Below w.heap.size w w') (w : World) : Calls Tryd.prog 51 #[.iface 120 (.agg #[.iface t x, .iface u y]), .int .i64 m] w fun r w' => r = .returned (.bool (q1 && q2)) ∧ Below w.heap.size w w' := by
 have t1 := taN_sym 120 (.agg #[.iface t x, .iface u y]) (by decide)
 have t2 := taN_here 120 (.agg #[.iface t x, .iface u y]) (by decide)
 have t3 := taN_sect 120 (.agg #[.iface t x, .iface u y]) (by decide)
 have me := me_mul (.iface t x) (.iface u y)
 have P1 := hide (parts2 t u x y w)
 have H1 := hide h1
 have H3 := hide h2
 clear h1 h2
 obtain ⟨T, hT⟩ : ∃ T, (q1 && q2) = T := ⟨_, rfl⟩
 have HT := hide hT
 rw [hT]
 clear hT
 go_enter Tryd.func51, Tryd.ntmps51
 go_wp2_with (go_at_call 92; refine (uh P1).mono ?_; rintro r w1 ⟨g, rfl, hg, hb⟩)
 have c0 := Lib.cell_of_heap hg 0
 have c1 := hide (Lib.cell_of_heap hg 1)
 have gl := hide (Array.getElem?_eq_some_iff.1 hg).1
 have B1 := hide hb
 have H2 := hide (uh H1 w1)
 clear hg hb P1
 refine wp_loop_rounds 3 ?_
 rw [rounds_succ]
 go_wp2_with fail
 refine (uh H2).mono ?_
 rintro r w2 ⟨rfl, hb2⟩
 have B2 := hide ((uh B1).trans (hb2.mono (uh B1).size))
 have d1 := (hb2.cell (p := ⟨g, 1, none⟩) (uh gl)).trans (uh c1)
 clear hb2 c0 c1 H2 H1 gl
 cases q1 with
 | false =>
  have E := hide ((uh HT).symm.trans (Bool.false_and _))
  go_wp2
  go_ret
  exact ⟨by rw [uh E]; rfl, uh B2⟩
 | true =>
  have E := hide ((uh HT).symm.trans (Bool.true_and _))
  have H4 := hide (uh H3 w2)
  go_wp2
  rw [rounds_succ]
  go_wp2_with fail
  refine (uh H4).mono ?_
  rintro r w3 ⟨rfl, hb3⟩
  have B3 := hide ((uh B2).trans (hb3.mono (uh B2).size))
  clear hb3 d1 H4 H3
  cases q2 with
  | false =>
   go_wp2
   go_ret
   exact ⟨by rw [uh E]; rfl, uh B3⟩
  | true =>
   go_wp2
   rw [rounds_succ]
   go_wp2
   go_ret
   exact ⟨by rw [uh E]; rfl, uh B3⟩
theorem ofm_div (m : Int) (t u : TypeId) (x y : Value) (q1 q2 : Bool) (h1 : ∀ w : World, Calls Tryd.prog 51 #[.iface t x, .int .i64 m] w fun r w' => r = .returned (.bool q1) ∧ Below w.heap.size w w') (h2 : ∀ w : World, Calls Tryd.prog 51 #[.iface u y, .int .i64 m] w fun r w' => r = .returned (.bool q2) ∧ Below w.heap.size w w') (w : World) : Calls Tryd.prog 51 #[.iface 121 (.agg #[.iface t x, .iface u y]), .int .i64 m] w fun r w' => r = .returned (.bool (q1 && q2)) ∧ Below w.heap.size w w' := by
 have t1 := taN_sym 121 (.agg #[.iface t x, .iface u y]) (by decide)
 have t2 := taN_here 121 (.agg #[.iface t x, .iface u y]) (by decide)
 have t3 := taN_sect 121 (.agg #[.iface t x, .iface u y]) (by decide)
 have me := me_div (.iface t x) (.iface u y)
 have P1 := hide (parts2 t u x y w)
 have H1 := hide h1
 have H3 := hide h2
 clear h1 h2
 obtain ⟨T, hT⟩ : ∃ T, (q1 && q2) = T := ⟨_, rfl⟩
 have HT := hide hT
 rw [hT]
 clear hT
 go_enter Tryd.func51, Tryd.ntmps51
 go_wp2_with (go_at_call 92; refine (uh P1).mono ?_; rintro r w1 ⟨g, rfl, hg, hb⟩)
 have c0 := Lib.cell_of_heap hg 0
 have c1 := hide (Lib.cell_of_heap hg 1)
 have gl := hide (Array.getElem?_eq_some_iff.1 hg).1
 have B1 := hide hb
 have H2 := hide (uh H1 w1)
 clear hg hb P1
 refine wp_loop_rounds 3 ?_
 rw [rounds_succ]
 go_wp2_with fail
 refine (uh H2).mono ?_
 rintro r w2 ⟨rfl, hb2⟩
 have B2 := hide ((uh B1).trans (hb2.mono (uh B1).size))
 have d1 := (hb2.cell (p := ⟨g, 1, none⟩) (uh gl)).trans (uh c1)
 clear hb2 c0 c1 H2 H1 gl
 cases q1 with
 | false =>
  have E := hide ((uh HT).symm.trans (Bool.false_and _))
  go_wp2
  go_ret
  exact ⟨by rw [uh E]; rfl, uh B2⟩
 | true =>
  have E := hide ((uh HT).symm.trans (Bool.true_and _))
  have H4 := hide (uh H3 w2)
  go_wp2
  rw [rounds_succ]
  go_wp2_with fail
  refine (uh H4).mono ?_
  rintro r w3 ⟨rfl, hb3⟩
  have B3 := hide ((uh B2).trans (hb3.mono (uh B2).size))
  clear hb3 d1 H4 H3
  cases q2 with
  | false =>
   go_wp2
   go_ret
   exact ⟨by rw [uh E]; rfl, uh B3⟩
  | true =>
   go_wp2
   rw [rounds_succ]
   go_wp2
   go_ret
   exact ⟨by rw [uh E]; rfl, uh B3⟩
theorem ofm_and (m : Int) (t u : TypeId) (x y : Value) (q1 q2 : Bool) (h1 : ∀ w : World, Calls Tryd.prog 51 #[.iface t x, .int .i64 m] w fun r w' => r = .returned (.bool q1) ∧ Below w.heap.size w w') (h2 : ∀ w : World, Calls Tryd.prog 51 #[.iface u y, .int .i64 m] w fun r w' => r = .returned (.bool q2) ∧ Below w.heap.size w w') (w : World) : Calls Tryd.prog 51 #[.iface 122 (.agg #[.iface t x, .iface u y]), .int .i64 m] w fun r w' => r = .returned (.bool (q1 && q2)) ∧ Below w.heap.size w w' := by
 have t1 := taN_sym 122 (.agg #[.iface t x, .iface u y]) (by decide)
 have t2 := taN_here 122 (.agg #[.iface t x, .iface u y]) (by decide)
 have t3 := taN_sect 122 (.agg #[.iface t x, .iface u y]) (by decide)
 have me := me_and (.iface t x) (.iface u y)
 have P1 := hide (parts2 t u x y w)
 have H1 := hide h1
 have H3 := hide h2
 clear h1 h2
 obtain ⟨T, hT⟩ : ∃ T, (q1 && q2) = T := ⟨_, rfl⟩
 have HT := hide hT
 rw [hT]
 clear hT
 go_enter Tryd.func51, Tryd.ntmps51
 go_wp2_with (go_at_call 92; refine (uh P1).mono ?_; rintro r w1 ⟨g, rfl, hg, hb⟩)
 have c0 := Lib.cell_of_heap hg 0
 have c1 := hide (Lib.cell_of_heap hg 1)
 have gl := hide (Array.getElem?_eq_some_iff.1 hg).1
 have B1 := hide hb
 have H2 := hide (uh H1 w1)
 clear hg hb P1
 refine wp_loop_rounds 3 ?_
 rw [rounds_succ]
 go_wp2_with fail
 refine (uh H2).mono ?_
 rintro r w2 ⟨rfl, hb2⟩
 have B2 := hide ((uh B1).trans (hb2.mono (uh B1).size))
 have d1 := (hb2.cell (p := ⟨g, 1, none⟩) (uh gl)).trans (uh c1)
 clear hb2 c0 c1 H2 H1 gl
 cases q1 with
 | false =>
  have E := hide ((uh HT).symm.trans (Bool.false_and _))
  go_wp2
  go_ret
  exact ⟨by rw [uh E]; rfl, uh B2⟩
 | true =>
  have E := hide ((uh HT).symm.trans (Bool.true_and _))
  have H4 := hide (uh H3 w2)
  go_wp2
  rw [rounds_succ]
  go_wp2_with fail
  refine (uh H4).mono ?_
  rintro r w3 ⟨rfl, hb3⟩
  have B3 := hide ((uh B2).trans (hb3.mono (uh B2).size))
  clear hb3 d1 H4 H3
  cases q2 with
  | false =>
   go_wp2
   go_ret
   exact ⟨by rw [uh E]; rfl, uh B3⟩
  | true =>
   go_wp2
   rw [rounds_succ]
   go_wp2
   go_ret
   exact ⟨by rw [uh E]; rfl, uh B3⟩
theorem ofm_or (m : Int) (t u : TypeId) (x y : Value) (q1 q2 : Bool) (h1 : ∀ w : World, Calls Tryd.prog 51 #[.iface t x, .int .i64 m] w fun r w' => r = .returned (.bool q1) ∧ Below w.heap.size w w') (h2 : ∀ w : World, Calls Tryd.prog 51 #[.iface u y, .int .i64 m] w fun r w' => r = .returned (.bool q2) ∧ Below w.heap.size w w') (w : World) : Calls Tryd.prog 51 #[.iface 123 (.agg #[.iface t x, .iface u y]), .int .i64 m] w fun r w' => r = .returned (.bool (q1 && q2)) ∧ Below w.heap.size w w' := by
 have t1 := taN_sym 123 (.agg #[.iface t x, .iface u y]) (by decide)
 have t2 := taN_here 123 (.agg #[.iface t x, .iface u y]) (by decide)
 have t3 := taN_sect 123 (.agg #[.iface t x, .iface u y]) (by decide)
 have me := me_or (.iface t x) (.iface u y)
 have P1 := hide (parts2 t u x y w)
 have H1 := hide h1
 have H3 := hide h2
 clear h1 h2
 obtain ⟨T, hT⟩ : ∃ T, (q1 && q2) = T := ⟨_, rfl⟩
 have HT := hide hT
 rw [hT]
 clear hT
 go_enter Tryd.func51, Tryd.ntmps51
 go_wp2_with (go_at_call 92; refine (uh P1).mono ?_; rintro r w1 ⟨g, rfl, hg, hb⟩)
 have c0 := Lib.cell_of_heap hg 0
 have c1 := hide (Lib.cell_of_heap hg 1)
 have gl := hide (Array.getElem?_eq_some_iff.1 hg).1
 have B1 := hide hb
 have H2 := hide (uh H1 w1)
 clear hg hb P1
 refine wp_loop_rounds 3 ?_
 rw [rounds_succ]
 go_wp2_with fail
 refine (uh H2).mono ?_
 rintro r w2 ⟨rfl, hb2⟩
 have B2 := hide ((uh B1).trans (hb2.mono (uh B1).size))
 have d1 := (hb2.cell (p := ⟨g, 1, none⟩) (uh gl)).trans (uh c1)
 clear hb2 c0 c1 H2 H1 gl
 cases q1 with
 | false =>
  have E := hide ((uh HT).symm.trans (Bool.false_and _))
  go_wp2
  go_ret
  exact ⟨by rw [uh E]; rfl, uh B2⟩
 | true =>
  have E := hide ((uh HT).symm.trans (Bool.true_and _))
  have H4 := hide (uh H3 w2)
  go_wp2
  rw [rounds_succ]
  go_wp2_with fail
  refine (uh H4).mono ?_
  rintro r w3 ⟨rfl, hb3⟩
  have B3 := hide ((uh B2).trans (hb3.mono (uh B2).size))
  clear hb3 d1 H4 H3
  cases q2 with
  | false =>
   go_wp2
   go_ret
   exact ⟨by rw [uh E]; rfl, uh B3⟩
  | true =>
   go_wp2
   rw [rounds_succ]
   go_wp2
   go_ret
   exact ⟨by rw [uh E]; rfl, uh B3⟩
def OfP (m : Int) (d : Nat) : Prop := ∀ (e : Ex) (w : World), okF d false e = true → Calls Tryd.prog 51 #[tv e, .int .i64 m] w fun r w' => r = .returned (.bool (trB m e)) ∧ Below w.heap.size w w'
theorem tr_num (m n : Int) : trB m ⟨1, n, E0, []⟩ = true := by rw [trB_eq]; rfl
theorem tr_sym (m : Int) (s : ByteArray) : trB m ⟨2, 0, s, []⟩ = false := by rw [trB_eq]; rfl
theorem tr_here (m : Int) : trB m ⟨3, 0, E0, []⟩ = false := by rw [trB_eq]; rfl
theorem tr_glob (m : Int) (s : ByteArray) : trB m ⟨12, 0, s, []⟩ = true := by rw [trB_eq]; rfl
theorem tr_sect (m n : Int) : trB m ⟨11, n, E0, []⟩ = decide (n < m) := by rw [trB_eq]; simp [topB]
theorem tr_one (m : Int) (a : Ex) : trB m ⟨4, 0, E0, [a]⟩ = trB m a := by rw [trB_eq]; simp [topB]
theorem tr_two (m : Int) {k : Int} (hk : 5 ≤ k ∧ k ≤ 10) (a b : Ex) : trB m ⟨k, 0, E0, [a, b]⟩ = (trB m a && trB m b) := by
 rw [trB_eq]
 have h : topB k 0 m = true := by
  unfold topB
  have h2 : (k != 2) = true := bne_iff_ne.2 (by omega)
  have h3 : (k != 3) = true := bne_iff_ne.2 (by omega)
  have h11 : (k != 11) = true := bne_iff_ne.2 (by omega)
  rw [h2, h3, h11]; rfl
 show ((([a, b].map (trB m)).all id) && topB k 0 m) = _
 rw [h]
 simp
theorem ofm_all (m : Int) : ∀ d : Nat, OfP m d := by
 intro d
 induction d with
 | zero => intro e w h; cases h
 | succ d ih =>
  intro e w h
  rcases ok_cases h with ⟨n, hn, rfl⟩ | ⟨s, hs, rfl⟩ | rfl | ⟨a, ha, rfl⟩ | ⟨k, a, b, hk, ha, hb, rfl⟩ | ⟨n, hn, rfl⟩ | ⟨s, hs, rfl⟩
  · rw [tv_num, tr_num]; exact ofm_num n m w
  · rw [tv_sym, tr_sym]; exact ofm_sym s m w
  · rw [tv_here, tr_here]; exact ofm_here m w
  ·
   obtain ⟨t, x, e1⟩ := tv_if a
   have h1 := fun w => ih a w ha
   rw [e1] at h1
   rw [tv_neg, e1, tr_one]
   exact ofm_neg m t x _ h1 w
  ·
   obtain ⟨t, x, e1⟩ := tv_if a
   obtain ⟨u, y, e2⟩ := tv_if b
   have h1 := fun w => ih a w ha
   have h2 := fun w => ih b w hb
   rw [e1] at h1
   rw [e2] at h2
   rw [tv_two hk, e1, e2, tr_two m hk]
   have : k = 5 ∨ k = 6 ∨ k = 7 ∨ k = 8 ∨ k = 9 ∨ k = 10 := by omega
   rcases this with rfl | rfl | rfl | rfl | rfl | rfl
   · exact ofm_add m t u x y _ _ h1 h2 w
   · exact ofm_sub m t u x y _ _ h1 h2 w
   · exact ofm_mul m t u x y _ _ h1 h2 w
   · exact ofm_div m t u x y _ _ h1 h2 w
   · exact ofm_and m t u x y _ _ h1 h2 w
   · exact ofm_or m t u x y _ _ h1 h2 w
  · rw [tv_sect, tr_sect]; exact ofm_sect n m w
  · rw [tv_glob, tr_glob]; exact ofm_glob s m w
theorem kind_add (n : Int) (s : ByteArray) (t u : TypeId) (x y : Value) (w : World) : Calls Tryd.prog 65 #[.iface 118 (.agg #[.iface t x, .iface u y])] w fun r w' => r = .returned (.int .i64 5) ∧ w' = w := by
 have t0 := taN_num 118 (.agg #[.iface t x, .iface u y]) (by decide)
 have t1 := taN_sym 118 (.agg #[.iface t x, .iface u y]) (by decide)
 have t2 := taN_here 118 (.agg #[.iface t x, .iface u y]) (by decide)
 have t3 := taN_neg 118 (.agg #[.iface t x, .iface u y]) (by decide)
 have tt := taY_add (.agg #[.iface t x, .iface u y])
 go_enter Tryd.func65, Tryd.ntmps65
 go_wp2
 go_ret
 exact ⟨rfl, rfl⟩
theorem kind_sub (n : Int) (s : ByteArray) (t u : TypeId) (x y : Value) (w : World) : Calls Tryd.prog 65 #[.iface 119 (.agg #[.iface t x, .iface u y])] w fun r w' => r = .returned (.int .i64 6) ∧ w' = w := by
 have t0 := taN_num 119 (.agg #[.iface t x, .iface u y]) (by decide)
 have t1 := taN_sym 119 (.agg #[.iface t x, .iface u y]) (by decide)
 have t2 := taN_here 119 (.agg #[.iface t x, .iface u y]) (by decide)
 have t3 := taN_neg 119 (.agg #[.iface t x, .iface u y]) (by decide)
 have t4 := taN_add 119 (.agg #[.iface t x, .iface u y]) (by decide)
 have tt := taY_sub (.agg #[.iface t x, .iface u y])
 go_enter Tryd.func65, Tryd.ntmps65
 go_wp2
 go_ret
 exact ⟨rfl, rfl⟩
theorem kind_mul (n : Int) (s : ByteArray) (t u : TypeId) (x y : Value) (w : World) : Calls Tryd.prog 65 #[.iface 120 (.agg #[.iface t x, .iface u y])] w fun r w' => r = .returned (.int .i64 7) ∧ w' = w := by
 have t0 := taN_num 120 (.agg #[.iface t x, .iface u y]) (by decide)
 have t1 := taN_sym 120 (.agg #[.iface t x, .iface u y]) (by decide)
 have t2 := taN_here 120 (.agg #[.iface t x, .iface u y]) (by decide)
 have t3 := taN_neg 120 (.agg #[.iface t x, .iface u y]) (by decide)
 have t4 := taN_add 120 (.agg #[.iface t x, .iface u y]) (by decide)
 have t5 := taN_sub 120 (.agg #[.iface t x, .iface u y]) (by decide)
 have tt := taY_mul (.agg #[.iface t x, .iface u y])
 go_enter Tryd.func65, Tryd.ntmps65
 go_wp2
 go_ret
 exact ⟨rfl, rfl⟩
theorem kind_div (n : Int) (s : ByteArray) (t u : TypeId) (x y : Value) (w : World) : Calls Tryd.prog 65 #[.iface 121 (.agg #[.iface t x, .iface u y])] w fun r w' => r = .returned (.int .i64 8) ∧ w' = w := by
 have t0 := taN_num 121 (.agg #[.iface t x, .iface u y]) (by decide)
 have t1 := taN_sym 121 (.agg #[.iface t x, .iface u y]) (by decide)
 have t2 := taN_here 121 (.agg #[.iface t x, .iface u y]) (by decide)
 have t3 := taN_neg 121 (.agg #[.iface t x, .iface u y]) (by decide)
 have t4 := taN_add 121 (.agg #[.iface t x, .iface u y]) (by decide)
 have t5 := taN_sub 121 (.agg #[.iface t x, .iface u y]) (by decide)
 have t6 := taN_mul 121 (.agg #[.iface t x, .iface u y]) (by decide)
 have tt := taY_div (.agg #[.iface t x, .iface u y])
 go_enter Tryd.func65, Tryd.ntmps65
 go_wp2
 go_ret
 exact ⟨rfl, rfl⟩
theorem kind_and (n : Int) (s : ByteArray) (t u : TypeId) (x y : Value) (w : World) : Calls Tryd.prog 65 #[.iface 122 (.agg #[.iface t x, .iface u y])] w fun r w' => r = .returned (.int .i64 9) ∧ w' = w := by
 have t0 := taN_num 122 (.agg #[.iface t x, .iface u y]) (by decide)
 have t1 := taN_sym 122 (.agg #[.iface t x, .iface u y]) (by decide)
 have t2 := taN_here 122 (.agg #[.iface t x, .iface u y]) (by decide)
 have t3 := taN_neg 122 (.agg #[.iface t x, .iface u y]) (by decide)
 have t4 := taN_add 122 (.agg #[.iface t x, .iface u y]) (by decide)
 have t5 := taN_sub 122 (.agg #[.iface t x, .iface u y]) (by decide)
 have t6 := taN_mul 122 (.agg #[.iface t x, .iface u y]) (by decide)
 have t7 := taN_div 122 (.agg #[.iface t x, .iface u y]) (by decide)
 have tt := taY_and (.agg #[.iface t x, .iface u y])
 go_enter Tryd.func65, Tryd.ntmps65
 go_wp2
 go_ret
 exact ⟨rfl, rfl⟩
theorem kind_or (n : Int) (s : ByteArray) (t u : TypeId) (x y : Value) (w : World) : Calls Tryd.prog 65 #[.iface 123 (.agg #[.iface t x, .iface u y])] w fun r w' => r = .returned (.int .i64 10) ∧ w' = w := by
 have t0 := taN_num 123 (.agg #[.iface t x, .iface u y]) (by decide)
 have t1 := taN_sym 123 (.agg #[.iface t x, .iface u y]) (by decide)
 have t2 := taN_here 123 (.agg #[.iface t x, .iface u y]) (by decide)
 have t3 := taN_neg 123 (.agg #[.iface t x, .iface u y]) (by decide)
 have t4 := taN_add 123 (.agg #[.iface t x, .iface u y]) (by decide)
 have t5 := taN_sub 123 (.agg #[.iface t x, .iface u y]) (by decide)
 have t6 := taN_mul 123 (.agg #[.iface t x, .iface u y]) (by decide)
 have t7 := taN_div 123 (.agg #[.iface t x, .iface u y]) (by decide)
 have t8 := taN_and 123 (.agg #[.iface t x, .iface u y]) (by decide)
 have tt := taY_or (.agg #[.iface t x, .iface u y])
 go_enter Tryd.func65, Tryd.ntmps65
 go_wp2
 go_ret
 exact ⟨rfl, rfl⟩
end Go.Proofs.YtoilipfipmoljaaDoor
