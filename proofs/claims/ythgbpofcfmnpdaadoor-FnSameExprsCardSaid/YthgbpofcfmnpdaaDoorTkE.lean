/- Marks and a text behind a dot by the program; TokenOk, the program's and the model's; over this seat's translation; conditions stand as hypotheses of each. -/
import Derived.Test.YthgbpofcfmnpdaaDoorTkD
import Derived.Laws.ResultCell
namespace Go.Proofs.YthgbpofcfmnpdaaDoor
open Go.ChangeShapes Go.WideShapes Go.ChangeAt Go.RowKit
set_option linter.unusedVariables false
set_option maxRecDepth 8000

theorem ixLite (s : ByteArray) (c : Int) (w : World) : Calls Tryd.prog 127 #[.string s, .int .u8 c] w fun e w' => e = .returned (.int .i64 (Lib.indexByte s.data.toList c.toNat.toUInt8)) ∧ w' = w := by
  go_enter Tryd.func127, Tryd.ntmps127
  go_wp2
  rw [run_callFunc_extern Tryd.func135 (by kernel_rfl) (by kernel_rfl) (by kernel_rfl) (e := Extern.BytealgIndexByte.indexByte) (by kernel_rfl), Lib.run_indexByteString]
  simp only [Result.andThen]
  rw [Oper.upon_value]
  go_wp2
  go_ret
  exact ⟨rfl, rfl⟩
def ixM (c : UInt8) : Int := Lib.indexByte mkL c
theorem ixM_fin : ∀ i : Fin 256, (-1 ≤ ixM (UInt8.ofNat i.val)) ∧ decide (0 ≤ ixM (UInt8.ofNat i.val)) = mkL.contains (UInt8.ofNat i.val) := by decide +kernel
theorem ixM_all (c : UInt8) : -1 ≤ ixM c ∧ decide (0 ≤ ixM c) = mkL.contains c := by
  have h := ixM_fin ⟨c.toNat, c.toNat_lt⟩
  have e : UInt8.ofNat c.toNat = c := UInt8.ofNat_toNat
  simp only [e] at h
  exact h
theorem one_of (s : ByteArray) (h : s.size = 1) : s.data.toList = [s.data.toList.getD 0 0] := by
  have hl := size_len s
  match hs : s.data.toList with
  | [] => rw [hs] at hl; simp at hl; omega
  | [c] => rfl
  | _ :: _ :: _ => rw [hs] at hl; simp at hl; omega

set_option maxHeartbeats 1000000 in
theorem index1_any (s : ByteArray) (h1 : s.size = 1) (w : World) : Calls Tryd.prog 114 #[.string mkA, .string s] w fun e w' => e = .returned (.int .i64 (ixM (s.data.toList.getD 0 0))) ∧ w' = w := by
  have he := sAt s 0 (by omega)
  have hbd := bAt_bd s.data.toList 0
  have HI := hide (fun w => ixLite mkA (bAt s.data.toList 0) w)
  have E := hide (show Lib.indexByte mkA.data.toList (bAt s.data.toList 0).toNat.toUInt8 = ixM (s.data.toList.getD 0 0) by
    unfold ixM bAt
    rw [Int.toNat_natCast]
    have e2 : (s.data.toList.getD 0 0).toNat.toUInt8 = s.data.toList.getD 0 0 := UInt8.ofNat_toNat
    rw [e2]
    rfl)
  rw [unhide E] at HI
  have hne := str_ne (a := s) (b := mkA) (fun e => by rw [e] at h1; exact absurd h1 (by decide))
  generalize ixM (s.data.toList.getD 0 0) = v at HI ⊢
  generalize bAt s.data.toList 0 = c at *
  clear E
  generalize mkA = T at *
  go_enter Tryd.func114, Tryd.ntmps114
  go_wp2_with (go_at_call 127; refine (unhide HI _).mono ?_; rintro e w' ⟨rfl, rfl⟩)
  go_ret
  exact ⟨rfl, rfl⟩
set_option maxHeartbeats 1000000 in
theorem contains1_any (s : ByteArray) (h1 : s.size = 1) (w : World) : Calls Tryd.prog 93 #[.string mkA, .string s] w fun e w' => e = .returned (.bool (markB s.data.toList)) ∧ w' = w := by
  have HI := hide (fun w => index1_any s h1 w)
  have E := hide (show markB s.data.toList = decide (0 ≤ ixM (s.data.toList.getD 0 0)) by rw [(ixM_all _).2]; rw [one_of s h1]; rfl)
  rw [unhide E]
  generalize ixM (s.data.toList.getD 0 0) = v at HI ⊢
  generalize mkA = T at *
  go_enter Tryd.func93, Tryd.ntmps93
  go_wp2_with (first | (go_at_call 114; refine (unhide HI _).mono ?_; rintro e w' ⟨rfl, rfl⟩) | go_in)
  go_ret
  exact ⟨rfl, rfl⟩
set_option maxHeartbeats 1000000 in
theorem mkrI_any (s : ByteArray) (w : World) : Calls Tryd.prog 60 #[.string s] w fun e w' => e = .returned (.bool (markB s.data.toList)) ∧ w' = w := by
  by_cases h1 : s.size = 1
  · have HI := hide (fun w => contains1_any s h1 w)
    generalize markB s.data.toList = v at HI ⊢
    have hz : ((s.size : Int) == 1) = true := by simp [h1]
    unfold mkA at HI
    go_enter Tryd.func60, Tryd.ntmps60
    go_wp2_with (go_at_call 93; refine (unhide HI _).mono ?_; rintro e w' ⟨rfl, rfl⟩)
    go_ret
    exact ⟨rfl, rfl⟩
  · have hz : ((s.size : Int) == 1) = false := beq_eq_false_iff_ne.2 (by omega)
    have E := hide (show markB s.data.toList = false by
      have hl := size_len s
      match hs : s.data.toList with
      | [] => rfl
      | [c] => rw [hs] at hl; simp at hl; omega
      | _ :: _ :: _ => rfl)
    rw [unhide E]
    go_enter Tryd.func60, Tryd.ntmps60
    go_wp2
    go_ret
    exact ⟨rfl, rfl⟩

/-- A dot and a name's form. -/
def dotB : List UInt8 → Bool
  | 46 :: t => formB t
  | _ => false
theorem dotB_cons (c : UInt8) (t : List UInt8) : dotB (c :: t) = (c == 46 && formB t) := by
  by_cases h : c = 46
  · subst h; rfl
  · rw [beq_eq_false_iff_ne.2 h, Bool.false_and]
    unfold dotB
    split
    · rename_i e; exact absurd (List.cons.inj e).1 h
    · rfl
theorem rest_of (s : ByteArray) : (s.extract 1 s.size).data.toList = s.data.toList.drop 1 := by
  rw [ByteArray.data_extract, Array.toList_extract, List.extract_eq_take_drop]
  rw [List.take_of_length_le]
  rw [List.length_drop, size_len]
  omega
theorem head_of (s : ByteArray) (h : s.size ≠ 0) : s.data.toList = s.data.toList.getD 0 0 :: s.data.toList.drop 1 := by
  have hl := size_len s
  match hs : s.data.toList with
  | [] => rw [hs] at hl; simp at hl; omega
  | _ :: _ => rfl
theorem rest_size (s : ByteArray) : (s.extract 1 s.size).size = s.size - 1 := by
  rw [← size_len, rest_of, List.length_drop, size_len]
theorem first_of (s : ByteArray) (h : s.size ≠ 0) : (s.extract 0 1).data.toList = [s.data.toList.getD 0 0] := by
  rw [ByteArray.data_extract, Array.toList_extract, List.extract_eq_take_drop, List.drop_zero]
  rw [head_of s h]
  rfl
theorem dot_eq (s : ByteArray) (h : s.size ≠ 0) : eqS (s.extract 0 1) ⟨#[46]⟩ = (bAt s.data.toList 0 == 46) := by
  rw [Bool.eq_iff_iff, eqS_iff, beq_iff_eq]
  unfold bAt
  constructor
  · intro e
    have := first_of s h
    rw [e] at this
    have h2 : (46 : UInt8) = s.data.toList.getD 0 0 := by simpa using this
    rw [← h2]; rfl
  · intro e
    apply bytes_inj
    rw [first_of s h]
    have : s.data.toList.getD 0 0 = 46 := by
      apply UInt8.toNat_inj.1
      show _ = 46
      omega
    rw [this]
set_option maxHeartbeats 1000000 in
theorem cut_yes (s : ByteArray) (w : World) (hmax : s.size ≤ 1099511627776) (h0 : s.size ≠ 0) (h46 : bAt s.data.toList 0 = 46) : Calls Tryd.prog 58 #[.string s, .string ⟨#[46]⟩] w fun e w' => e = .returned (.tuple #[.string (s.extract 1 s.size), .bool true]) ∧ w' = w := by
  have hd := dot_eq s h0
  unfold eqS at hd
  rw [h46] at hd
  have hd2 : ((s.extract 0 1).toList == [46]) = true := by rw [show (ByteArray.mk #[46]).toList = [46] by rw [ByteArray.toList_eq]] at hd; exact hd
  clear hd h46
  go_enter Tryd.func58, Tryd.ntmps58
  go_wp2_with go_in
  go_ret2
  exact ⟨rfl, rfl⟩
set_option maxHeartbeats 1000000 in
theorem cut_no (s : ByteArray) (w : World) (hmax : s.size ≤ 1099511627776) (h : s.size = 0 ∨ bAt s.data.toList 0 ≠ 46) : Calls Tryd.prog 58 #[.string s, .string ⟨#[46]⟩] w fun e w' => e = .returned (.tuple #[.string s, .bool false]) ∧ w' = w := by
  by_cases h0 : s.size = 0
  · obtain rfl := empty_of s h0
    clear h
    go_enter Tryd.func58, Tryd.ntmps58
    go_wp2_with go_in
    go_ret2
    exact ⟨rfl, rfl⟩
  · have hd := dot_eq s h0
    unfold eqS at hd
    have h46 : bAt s.data.toList 0 ≠ 46 := h.elim (fun e => absurd e h0) id
    rw [beq_eq_false_iff_ne.2 h46, show (ByteArray.mk #[46]).toList = [46] by rw [ByteArray.toList_eq]] at hd
    clear h h46
    go_enter Tryd.func58, Tryd.ntmps58
    go_wp2_with go_in
    go_ret2
    exact ⟨rfl, rfl⟩

/-- A token. -/
structure Tk where
  k : Int
  n : Int
  s : ByteArray
def Tk.cs (t : Tk) : Array Value := #[.int .i64 t.k, .int .i64 t.n, .string t.s]
def Tk.v (t : Tk) : Value := .agg t.cs
def nameB (s : ByteArray) : Bool := formB s.data.toList && !keptB s
/-- Is a token right? -/
def Tk.ok (t : Tk) : Bool :=
  if t.k == 2 then inB t.n 0 65535 && decide (t.s.size = 0)
  else if t.n != 0 then false
  else if t.k == 1 then nameB t.s
  else if t.k == 3 then dotB t.s.data.toList
  else if t.k == 4 then markB t.s.data.toList
  else if t.k == 5 then keptB t.s
  else false
set_option maxHeartbeats 1000000 in
theorem nameI_any (s : ByteArray) (w : World) (hmax : s.size ≤ 1099511627776) (ht : TabK w) : Calls Tryd.prog 57 #[.string s] w fun e w' => e = .returned (.bool (nameB s)) ∧ w' = w := by
  have H1 := hide (formI_any s w hmax)
  have H2 := hide (keptI_any s w ht)
  unfold nameB
  generalize formB s.data.toList = p at *
  generalize keptB s = q at *
  clear ht
  cases p
  · go_enter Tryd.func57, Tryd.ntmps57
    go_wp2_with (first | (go_at_call 59; refine (unhide H1).mono ?_; rintro e w' ⟨rfl, rfl⟩) | (go_at_call 61; refine (unhide H2).mono ?_; rintro e w' ⟨rfl, rfl⟩))
    go_ret
    exact ⟨rfl, rfl⟩
  · go_enter Tryd.func57, Tryd.ntmps57
    go_wp2_with (first | (go_at_call 59; refine (unhide H1).mono ?_; rintro e w' ⟨rfl, rfl⟩) | (go_at_call 61; refine (unhide H2).mono ?_; rintro e w' ⟨rfl, rfl⟩))
    go_ret
    exact ⟨rfl, rfl⟩
set_option maxHeartbeats 1000000 in
theorem nameS_any (s : ByteArray) (w : World) (hmax : s.size ≤ 1099511627776) : Calls Tryd.prog 63 #[.string s] w fun e w' => e = .returned (.bool (nameB s)) ∧ Below w.heap.size w w' := by
  have H1 := hide (formS_any s w hmax)
  have HY := hide (fun h => atV_yes (L := keptL) (s := s) h)
  have HN := hide (fun h => atV_no (L := keptL) (s := s) h)
  have HA := hide (fun w1 (hr : RdS w1 w.heap.size keptL) => at_any keptL s w.heap.size 31 31 w1 rfl (by omega) hr)
  have HK := hide (kept_any w)
  unfold nameB keptB
  generalize formB s.data.toList = p at *
  generalize hasS keptL s = q at *
  generalize atV keptL s = v at *
  cases p
  · go_enter Tryd.func63, Tryd.ntmps63
    go_wp2_with (go_at_call 64; refine (unhide H1).mono ?_; rintro e w' ⟨rfl, rfl⟩)
    go_ret
    exact ⟨rfl, Below.refl _ _⟩
  · have E := hide (show (decide (v < 0)) = !q by
      cases q
      · rw [unhide HN rfl]; rfl
      · have := unhide HY rfl
        simp
        omega)
    go_enter Tryd.func63, Tryd.ntmps63
    go_wp2_with (first | (go_at_call 64; refine (unhide H1).mono ?_; rintro e w' ⟨rfl, rfl⟩) | (go_at_call 67; refine (unhide HK).mono ?_; rintro e w1 ⟨rfl, hr1, hb1⟩) | (go_at_call 66; refine (unhide HA _ hr1).mono ?_; rintro e w' ⟨rfl, rfl⟩))
    go_ret
    exact ⟨by rw [← unhide E]; rfl, hb1⟩

theorem box3 (w : World) (t : Tk) (ty : TypeId) : (w.alloc (.cells t.cs ty)).cell? ⟨w.heap.size, 0, none⟩ = some (.int .i64 t.k) ∧ (w.alloc (.cells t.cs ty)).cell? ⟨w.heap.size, 1, none⟩ = some (.int .i64 t.n) ∧ (w.alloc (.cells t.cs ty)).cell? ⟨w.heap.size, 2, none⟩ = some (.string t.s) := by
  refine ⟨?_, ?_, ?_⟩ <;> (rw [World.cell?_alloc_at _ _ _ _ rfl]; rfl)
theorem below_new (w : World) (o : Obj) : Below w.heap.size w (w.alloc o) := (Below.refl _ _).alloc (Nat.le_refl _) _
theorem emp_yes (s : ByteArray) (h : s.size = 0) : s.toList.isEmpty = true := by rw [← decide_eq_emptyBytes]; exact decide_eq_true (empty_of s h)
set_option maxHeartbeats 2000000 in
theorem tokI_any (t : Tk) (w : World) (hmax : t.s.size ≤ 1099511627776) (ht : TabK w) : Calls Tryd.prog 17 #[t.v] w fun e w' => e = .returned (.bool t.ok) ∧ Below w.heap.size w w' := by
  have hB := hide (below_new w (.cells t.cs 31))
  have TB := hide (ht.next (unhide hB))
  obtain ⟨c0, c1, c2⟩ := box3 w t 31
  unfold Tk.v Tk.ok
  obtain ⟨k, n, s⟩ := t
  simp only at hmax c0 c1 c2 ⊢
  have HW := hide (fun w => isWord_any n w)
  have HN := hide (fun w (h : TabK w) => nameI_any s w hmax h)
  have HM := hide (fun w => mkrI_any s w)
  have HK := hide (fun w (h : TabK w) => keptI_any s w h)
  generalize Tk.cs ⟨k, n, s⟩ = cc at *
  clear ht
  by_cases h2 : k = 2
  · subst h2
    rw [if_pos (by decide)]
    generalize inB n 0 65535 = q at *
    cases q
    · go_enter Tryd.func17, Tryd.ntmps17
      go_wp2_with (go_at_call 56; refine (unhide HW _).mono ?_; rintro e w' ⟨rfl, rfl⟩)
      go_ret
      exact ⟨rfl, unhide hB⟩
    · by_cases hz : s.size = 0
      · have he := emp_yes s hz
        rw [decide_eq_true hz]
        go_enter Tryd.func17, Tryd.ntmps17
        go_wp2_with (go_at_call 56; refine (unhide HW _).mono ?_; rintro e w' ⟨rfl, rfl⟩)
        go_ret
        exact ⟨rfl, unhide hB⟩
      · have he := emp_no s hz
        rw [decide_eq_false hz]
        go_enter Tryd.func17, Tryd.ntmps17
        go_wp2_with (go_at_call 56; refine (unhide HW _).mono ?_; rintro e w' ⟨rfl, rfl⟩)
        go_ret
        exact ⟨rfl, unhide hB⟩
  · have h2b : (k == 2) = false := beq_eq_false_iff_ne.2 h2
    rw [h2b, if_neg (by decide)]
    by_cases hn : n = 0
    · subst hn
      rw [if_neg (by decide)]
      by_cases h1 : k = 1
      · subst h1
        rw [if_pos (by decide)]
        generalize nameB s = q at *
        clear HW HM HK
        go_enter Tryd.func17, Tryd.ntmps17
        go_wp2_with (go_at_call 57; refine (unhide HN _ (unhide TB)).mono ?_; rintro e w' ⟨rfl, rfl⟩)
        go_ret
        exact ⟨rfl, unhide hB⟩
      · have h1b : (k == 1) = false := beq_eq_false_iff_ne.2 h1
        rw [h1b, if_neg (by decide)]
        by_cases h3 : k = 3
        · subst h3
          rw [if_pos (by decide)]
          clear HW HM HK HN
          by_cases hd : s.size ≠ 0 ∧ bAt s.data.toList 0 = 46
          · have HC := hide (fun w => cut_yes s w hmax hd.1 hd.2)
            have HF := hide (fun w => formI_any (s.extract 1 s.size) w (by rw [rest_size]; omega))
            have E := hide (show dotB s.data.toList = formB (s.extract 1 s.size).data.toList by
              rw [head_of s hd.1, dotB_cons, rest_of]
              have : s.data.toList.getD 0 0 = 46 := by
                apply UInt8.toNat_inj.1
                show _ = 46
                have := hd.2
                unfold bAt at this
                omega
              rw [this]; rfl)
            rw [unhide E]
            generalize formB (s.extract 1 s.size).data.toList = q at *
            generalize s.extract 1 s.size = s2 at *
            clear hd E
            go_enter Tryd.func17, Tryd.ntmps17
            go_wp2_with (first | (go_at_call 58; refine (unhide HC _).mono ?_; rintro e w' ⟨rfl, rfl⟩) | (go_at_call 59; refine (unhide HF _).mono ?_; rintro e w' ⟨rfl, rfl⟩))
            go_ret
            exact ⟨rfl, unhide hB⟩
          · have HC := hide (fun w => cut_no s w hmax (by by_cases hz : s.size = 0; exact .inl hz; exact .inr (fun e => hd ⟨hz, e⟩)))
            have E := hide (show dotB s.data.toList = false by
              by_cases hz : s.size = 0
              · rw [empty_of s hz]; rfl
              · rw [head_of s hz, dotB_cons]
                have : (s.data.toList.getD 0 0 == 46) = false := beq_eq_false_iff_ne.2 (fun e => hd ⟨hz, by unfold bAt; rw [e]; rfl⟩)
                rw [this, Bool.false_and])
            rw [unhide E]
            clear hd E
            go_enter Tryd.func17, Tryd.ntmps17
            go_wp2_with (go_at_call 58; refine (unhide HC _).mono ?_; rintro e w' ⟨rfl, rfl⟩)
            go_ret
            exact ⟨rfl, unhide hB⟩
        · have h3b : (k == 3) = false := beq_eq_false_iff_ne.2 h3
          rw [h3b, if_neg (by decide)]
          by_cases h4 : k = 4
          · subst h4
            rw [if_pos (by decide)]
            generalize markB s.data.toList = q at *
            clear HW HN HK
            go_enter Tryd.func17, Tryd.ntmps17
            go_wp2_with (go_at_call 60; refine (unhide HM _).mono ?_; rintro e w' ⟨rfl, rfl⟩)
            go_ret
            exact ⟨rfl, unhide hB⟩
          · have h4b : (k == 4) = false := beq_eq_false_iff_ne.2 h4
            rw [h4b, if_neg (by decide)]
            by_cases h5 : k = 5
            · subst h5
              rw [if_pos (by decide)]
              generalize keptB s = q at *
              clear HW HN HM
              go_enter Tryd.func17, Tryd.ntmps17
              go_wp2_with (go_at_call 61; refine (unhide HK _ (unhide TB)).mono ?_; rintro e w' ⟨rfl, rfl⟩)
              go_ret
              exact ⟨rfl, unhide hB⟩
            · have h5b : (k == 5) = false := beq_eq_false_iff_ne.2 h5
              rw [h5b, if_neg (by decide)]
              clear HW HN HM HK
              go_enter Tryd.func17, Tryd.ntmps17
              go_wp2
              go_ret
              exact ⟨rfl, unhide hB⟩
    · have hnb : (n != 0) = true := by simp [hn]
      rw [hnb, if_pos (by decide)]
      clear HW HN HM HK
      go_enter Tryd.func17, Tryd.ntmps17
      go_wp2
      go_ret
      exact ⟨rfl, unhide hB⟩
end Go.Proofs.YthgbpofcfmnpdaaDoor
