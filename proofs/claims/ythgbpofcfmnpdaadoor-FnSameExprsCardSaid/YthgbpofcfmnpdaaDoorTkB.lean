/- What a token is; letters, digits, a name's form: the program's and the model's contracts; over this seat's translation; conditions stand as hypotheses of each. -/
import Derived.Test.YthgbpofcfmnpdaaDoorOctT
import Derived.Lib.Bytealg
import Derived.Laws.Strings3
namespace Go.Proofs.YthgbpofcfmnpdaaDoor
open Go.ChangeShapes Go.WideShapes Go.ChangeAt Go.RowKit
set_option linter.unusedVariables false
set_option maxRecDepth 8000

def smB (c : Int) : Bool := inB c 97 122
def dgB (c : Int) : Bool := inB c 48 57
def ldB (c : Int) : Bool := smB c || dgB c
def blB (c : Int) : Bool := c == 32 || c == 9

theorem blank_any (c : Int) (w : World) : Calls Tryd.prog 37 #[.int .u8 c] w fun e w' => e = .returned (.bool (blB c)) ∧ w' = w := by
  unfold blB
  cases h : (c == 32)
  · go_enter Tryd.func37, Tryd.ntmps37
    go_wp2
    go_ret
    exact ⟨rfl, rfl⟩
  · go_enter Tryd.func37, Tryd.ntmps37
    go_wp2
    go_ret
    exact ⟨rfl, rfl⟩
theorem smI_any (c : Int) (w : World) : Calls Tryd.prog 38 #[.int .u8 c] w fun e w' => e = .returned (.bool (smB c)) ∧ w' = w := by
  unfold smB inB
  cases h : decide (97 ≤ c)
  · go_enter Tryd.func38, Tryd.ntmps38
    go_wp2
    go_ret
    exact ⟨rfl, rfl⟩
  · go_enter Tryd.func38, Tryd.ntmps38
    go_wp2
    go_ret
    exact ⟨rfl, rfl⟩
theorem dgI_any (c : Int) (w : World) : Calls Tryd.prog 39 #[.int .u8 c] w fun e w' => e = .returned (.bool (dgB c)) ∧ w' = w := by
  unfold dgB inB
  cases h : decide (48 ≤ c)
  · go_enter Tryd.func39, Tryd.ntmps39
    go_wp2
    go_ret
    exact ⟨rfl, rfl⟩
  · go_enter Tryd.func39, Tryd.ntmps39
    go_wp2
    go_ret
    exact ⟨rfl, rfl⟩
theorem ldI_any (c : Int) (w : World) : Calls Tryd.prog 41 #[.int .u8 c] w fun e w' => e = .returned (.bool (ldB c)) ∧ w' = w := by
  have H1 := hide (fun w => smI_any c w)
  have H2 := hide (fun w => dgI_any c w)
  unfold ldB
  generalize smB c = a at *
  generalize dgB c = b at *
  cases a
  · go_enter Tryd.func41, Tryd.ntmps41
    go_wp2_with (first | (go_at_call 38; refine (unhide H1 _).mono ?_; rintro e w' ⟨rfl, rfl⟩) | (go_at_call 39; refine (unhide H2 _).mono ?_; rintro e w' ⟨rfl, rfl⟩))
    go_ret
    exact ⟨rfl, rfl⟩
  · go_enter Tryd.func41, Tryd.ntmps41
    go_wp2_with (first | (go_at_call 38; refine (unhide H1 _).mono ?_; rintro e w' ⟨rfl, rfl⟩) | (go_at_call 39; refine (unhide H2 _).mono ?_; rintro e w' ⟨rfl, rfl⟩))
    go_ret
    exact ⟨rfl, rfl⟩
theorem smS_any (c : Int) (w : World) (h0 : 0 ≤ c) (h1 : c ≤ 255) : Calls Tryd.prog 86 #[.int .u8 c] w fun e w' => e = .returned (.bool (smB c)) ∧ w' = w := by
  unfold smB
  go_enter Tryd.func86, Tryd.ntmps86
  go_wp2_with (go_at_call 62; refine (in_any _ _ _ _).mono ?_; rintro e w' ⟨rfl, rfl⟩)
  go_ret
  exact ⟨rfl, rfl⟩
theorem dgS_any (c : Int) (w : World) (h0 : 0 ≤ c) (h1 : c ≤ 255) : Calls Tryd.prog 89 #[.int .u8 c] w fun e w' => e = .returned (.bool (dgB c)) ∧ w' = w := by
  unfold dgB
  go_enter Tryd.func89, Tryd.ntmps89
  go_wp2_with (go_at_call 62; refine (in_any _ _ _ _).mono ?_; rintro e w' ⟨rfl, rfl⟩)
  go_ret
  exact ⟨rfl, rfl⟩

/-- May this byte stand in a name's form? -/
def okAt (l : List UInt8) (i : Nat) : Bool := smB (bAt l i) || (decide (0 < i) && dgB (bAt l i))
/-- Has a text a name's form? -/
def formB (l : List UInt8) : Bool := (List.range l.length).all (okAt l) && inB l.length 1 6
theorem formB_no {l : List UInt8} {k : Nat} (h : k < l.length) (hk : okAt l k = false) : formB l = false := by
  unfold formB
  have : (List.range l.length).all (okAt l) = false := by
    rw [List.all_eq_false]
    exact ⟨k, List.mem_range.2 h, by rw [hk]; decide⟩
  rw [this, Bool.false_and]
theorem formB_all {l : List UInt8} (h : ∀ k, k < l.length → okAt l k = true) : formB l = inB l.length 1 6 := by
  unfold formB
  have : (List.range l.length).all (okAt l) = true := by
    rw [List.all_eq_true]
    exact fun k hk => h k (List.mem_range.1 hk)
  rw [this, Bool.true_and]
theorem formB_len {l : List UInt8} (h : ¬ (1 ≤ l.length ∧ l.length ≤ 6)) : formB l = false := by
  unfold formB
  rw [inB_f _ _ _ (by omega), Bool.and_false]
theorem size_len (s : ByteArray) : s.data.toList.length = s.size := by simp
theorem empty_of (s : ByteArray) (h : s.size = 0) : s = ⟨#[]⟩ := by apply ByteArray.ext; exact Array.eq_empty_of_size_eq_zero h
theorem emp_no (s : ByteArray) (h : s.size ≠ 0) : s.toList.isEmpty = false := by
  rw [← decide_eq_emptyBytes]
  exact decide_eq_false (fun e => h (by rw [e]; rfl))

set_option maxHeartbeats 400000 in
theorem formS_any (s : ByteArray) (w : World) (hmax : s.size ≤ 1099511627776) : Calls Tryd.prog 64 #[.string s] w fun e w' => e = .returned (.bool (formB s.data.toList)) ∧ w' = w := by
  have hl := size_len s
  obtain ⟨q, hq⟩ : ∃ q, formB s.data.toList = q := ⟨_, rfl⟩
  have NO := hide (fun k hk h => (formB_no (l := s.data.toList) (k := k) hk h).symm.trans hq)
  have YES := hide (fun h => (formB_all (l := s.data.toList) h).symm.trans hq)
  rw [hl] at NO YES
  rw [hq]
  clear hq
  go_enter Tryd.func64, Tryd.ntmps64
  go_wp2
  go_loop [3] (fun i => ∃ k : Nat, i = .int .i64 k ∧ k ≤ s.size ∧ Hid (∀ j, j < k → okAt s.data.toList j = true)) (fun i => s.size - (intOf i).toNat)
  case atStart => exact ⟨0, rfl, by omega, fun j hj => by omega⟩
  case round =>
    obtain ⟨k, rfl, hk, hd⟩ := hrel
    by_cases hlt : k < s.size
    · have he := sAt s k hlt
      have hbd := bAt_bd s.data.toList k
      have N1 := hide (unhide NO k hlt)
      have hd1 : okAt s.data.toList k = true → ∀ j, j < k + 1 → okAt s.data.toList j = true := fun h j hj => by
        by_cases e : j = k
        · subst e; exact h
        · exact hd.out j (by omega)
      have HD := hide hd1
      have S1 := hide (fun w => smS_any (bAt s.data.toList k) w hbd.1 hbd.2)
      have D1 := hide (fun w => dgS_any (bAt s.data.toList k) w hbd.1 hbd.2)
      have OK := hide (show okAt s.data.toList k = (smB (bAt s.data.toList k) || (decide (0 < k) && dgB (bAt s.data.toList k))) from rfl)
      generalize smB (bAt s.data.toList k) = p at S1 OK
      generalize dgB (bAt s.data.toList k) = r at D1 OK
      generalize bAt s.data.toList k = c at he hbd S1 D1
      clear hd hd1
      cases p
      · by_cases hz : k = 0
        · subst hz
          have E := hide (unhide N1 (by rw [unhide OK]; rfl))
          go_wp2_with (first | (go_at_call 86; refine (unhide S1 _).mono ?_; rintro e w' ⟨rfl, rfl⟩) | (go_at_call 89; refine (unhide D1 _).mono ?_; rintro e w' ⟨rfl, rfl⟩))
          go_ret
          exact ⟨by rw [← unhide E]; rfl, rfl⟩
        · have hz1 : ((k : Int) == 0) = false := beq_eq_false_iff_ne.2 (by omega)
          cases r
          · have E := hide (unhide N1 (by rw [unhide OK]; simp))
            go_wp2_with (first | (go_at_call 86; refine (unhide S1 _).mono ?_; rintro e w' ⟨rfl, rfl⟩) | (go_at_call 89; refine (unhide D1 _).mono ?_; rintro e w' ⟨rfl, rfl⟩))
            go_ret
            exact ⟨by rw [← unhide E]; rfl, rfl⟩
          · have E := hide (unhide HD (by rw [unhide OK]; simp; omega))
            go_wp2_with (first | (go_at_call 86; refine (unhide S1 _).mono ?_; rintro e w' ⟨rfl, rfl⟩) | (go_at_call 89; refine (unhide D1 _).mono ?_; rintro e w' ⟨rfl, rfl⟩))
            go_round
            case rel => exact ⟨k + 1, by go_num, by omega, unhide E⟩
            case measure => simp [intOf]; omega
      · have E := hide (unhide HD (by rw [unhide OK]; rfl))
        go_wp2_with (first | (go_at_call 86; refine (unhide S1 _).mono ?_; rintro e w' ⟨rfl, rfl⟩) | (go_at_call 89; refine (unhide D1 _).mono ?_; rintro e w' ⟨rfl, rfl⟩))
        go_round
        case rel => exact ⟨k + 1, by go_num, by omega, unhide E⟩
        case measure => simp [intOf]; omega
    · have E := hide (unhide YES (fun j hj => hd.out j (by omega)))
      clear hd
      go_wp2_with (go_at_call 62; refine (in_any _ _ _ _).mono ?_; rintro e w' ⟨rfl, rfl⟩)
      go_ret
      exact ⟨by rw [← unhide E]; rfl, rfl⟩

set_option maxHeartbeats 400000 in
theorem formI_any (s : ByteArray) (w : World) (hmax : s.size ≤ 1099511627776) : Calls Tryd.prog 59 #[.string s] w fun e w' => e = .returned (.bool (formB s.data.toList)) ∧ w' = w := by
  by_cases h0 : s.size = 0
  · obtain rfl := empty_of s h0
    have E := hide (show false = formB (ByteArray.mk #[]).data.toList by decide)
    rw [← unhide E]
    go_enter Tryd.func59, Tryd.ntmps59
    go_wp2
    go_ret
    exact ⟨rfl, rfl⟩
  · have hl := size_len s
    have hemp := emp_no s h0
    by_cases h6 : 6 < s.size
    · have E := hide (formB_len (l := s.data.toList) (by omega))
      rw [unhide E]
      go_enter Tryd.func59, Tryd.ntmps59
      go_wp2
      go_ret
      exact ⟨rfl, rfl⟩
    · have h6d : decide ((6 : Int) < (s.size : Int)) = false := by simp; omega
      have hlt0 : 0 < s.size := by omega
      have he := sAt s 0 hlt0
      have hbd := bAt_bd s.data.toList 0
      have S0 := hide (fun w => smI_any (bAt s.data.toList 0) w)
      have OK0 := hide (show okAt s.data.toList 0 = smB (bAt s.data.toList 0) by unfold okAt; simp)
      obtain ⟨q, hq⟩ : ∃ q, formB s.data.toList = q := ⟨_, rfl⟩
      have NO := hide (fun k hk h => (formB_no (l := s.data.toList) (k := k) hk h).symm.trans hq)
      have YES := hide (fun h => (formB_all (l := s.data.toList) h).symm.trans hq)
      rw [hl] at NO YES
      have IN := hide (show inB (s.size : Int) 1 6 = true from inB_t _ _ _ (by omega) (by omega))
      rw [hq]
      clear hq
      generalize smB (bAt s.data.toList 0) = p at S0 OK0
      have HE := hide he
      generalize bAt s.data.toList 0 = c0 at he hbd S0
      cases p
      · have E := hide (unhide NO 0 hlt0 (unhide OK0))
        go_enter Tryd.func59, Tryd.ntmps59
        go_wp2_with (go_at_call 38; refine (unhide S0 _).mono ?_; rintro e w' ⟨rfl, rfl⟩)
        go_ret
        exact ⟨by rw [← unhide E]; rfl, rfl⟩
      · go_enter Tryd.func59, Tryd.ntmps59
        go_wp2_with (go_at_call 38; refine (unhide S0 _).mono ?_; rintro e w' ⟨rfl, rfl⟩)
        clear he hbd S0
        go_loop [19] (fun i => ∃ k : Nat, i = .int .i64 k ∧ k ≤ s.size ∧ Hid (∀ j, j < k → okAt s.data.toList j = true)) (fun i => s.size - (intOf i).toNat)
        case atStart => exact ⟨0, rfl, by omega, fun j hj => by omega⟩
        case round =>
          obtain ⟨k, rfl, hk, hd⟩ := hrel
          by_cases hlt : k < s.size
          · have he := sAt s k hlt
            have hbd := bAt_bd s.data.toList k
            have N1 := hide (unhide NO k hlt)
            have hd1 : ldB (bAt s.data.toList k) = true → ∀ j, j < k + 1 → okAt s.data.toList j = true := fun h j hj => by
              by_cases e : j = k
              · subst e
                by_cases hz : j = 0
                · subst hz; exact unhide OK0
                · unfold okAt; rw [decide_eq_true (by omega), Bool.true_and]; exact h
              · exact hd.out j (by omega)
            have HD := hide hd1
            have L1 := hide (fun w => ldI_any (bAt s.data.toList k) w)
            have OK := hide (show ldB (bAt s.data.toList k) = false → okAt s.data.toList k = false from fun h => by
              unfold ldB at h
              rw [Bool.or_eq_false_iff] at h
              unfold okAt
              rw [h.1, h.2]; simp)
            generalize ldB (bAt s.data.toList k) = p at L1 OK HD
            generalize bAt s.data.toList k = c at he hbd L1
            clear hd hd1
            cases p
            · have E := hide (unhide N1 (unhide OK rfl))
              go_wp2_with (go_at_call 41; refine (unhide L1 _).mono ?_; rintro e w' ⟨rfl, rfl⟩)
              go_ret
              exact ⟨by rw [← unhide E]; rfl, rfl⟩
            · have HE2 := hide (unhide HD rfl)
              go_wp2_with (go_at_call 41; refine (unhide L1 _).mono ?_; rintro e w' ⟨rfl, rfl⟩)
              go_round
              case rel => exact ⟨k + 1, by go_num, by omega, unhide HE2⟩
              case measure => simp [intOf]; omega
          · have E := hide ((unhide IN).symm.trans (unhide YES (fun j hj => hd.out j (by omega))))
            clear hd
            go_wp2
            go_ret
            exact ⟨by rw [← unhide E]; rfl, rfl⟩
end Go.Proofs.YthgbpofcfmnpdaaDoor
