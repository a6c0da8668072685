/- TokenOk by the model; over this seat's translation; conditions stand as hypotheses of each. -/
import Derived.Test.YthgbpofcfmnpdaaDoorTkF0
namespace Go.Proofs.YthgbpofcfmnpdaaDoor
open Go.ChangeShapes Go.WideShapes Go.ChangeAt Go.RowKit
set_option linter.unusedVariables false
set_option maxRecDepth 8000

set_option maxHeartbeats 2000000 in
theorem tokS_any (t : Tk) (w : World) (hmax : t.s.size ≤ 1099511627776) : Calls Tryd.prog 18 #[t.v] w fun e w' => e = .returned (.bool t.ok) ∧ Below w.heap.size w w' := by
  have hB := hide (below_new w (.cells t.cs 31))
  obtain ⟨c0, c1, c2⟩ := box3 w t 31
  unfold Tk.v Tk.ok
  obtain ⟨k, n, s⟩ := t
  simp only at hmax c0 c1 c2 ⊢
  have HW := hide (fun w => in_any n 0 65535 w)
  have HN := hide (nameS_any s (w.alloc (.cells (Tk.cs ⟨k, n, s⟩) 31)) hmax)
  have HM := hide (fun w => mkrS_any s w)
  have T5 := hide (show k = 5 → n = 0 → Calls Tryd.prog 18 #[.agg (Tk.cs ⟨k, n, s⟩)] w fun e w' => e = .returned (.bool (keptB s)) ∧ Below w.heap.size w w' from by rintro rfl rfl; exact tok5 s w)
  generalize Tk.cs ⟨k, n, s⟩ = cc at *
  by_cases h2 : k = 2
  · subst h2
    rw [if_pos (by decide)]
    generalize inB n 0 65535 = q at *
    cases q
    · go_enter Tryd.func18, Tryd.ntmps18
      go_wp2_with (go_at_call 62; refine (unhide HW _).mono ?_; rintro e w' ⟨rfl, rfl⟩)
      go_ret
      exact ⟨rfl, unhide hB⟩
    · by_cases hz : s.size = 0
      · have he := emp_yes s hz
        rw [decide_eq_true hz]
        go_enter Tryd.func18, Tryd.ntmps18
        go_wp2_with (go_at_call 62; refine (unhide HW _).mono ?_; rintro e w' ⟨rfl, rfl⟩)
        go_ret
        exact ⟨rfl, unhide hB⟩
      · have he := emp_no s hz
        rw [decide_eq_false hz]
        go_enter Tryd.func18, Tryd.ntmps18
        go_wp2_with (go_at_call 62; refine (unhide HW _).mono ?_; rintro e w' ⟨rfl, rfl⟩)
        go_ret
        exact ⟨rfl, unhide hB⟩
  · have h2b : (k == 2) = false := beq_eq_false_iff_ne.2 h2
    rw [h2b, if_neg (by decide)]
    by_cases hn : n = 0
    · subst hn
      rw [if_neg (by decide)]
      by_cases h1 : k = 1
      · subst h1
        rw [if_pos (by decide)]
        generalize nameB s = q at *
        clear HW HM
        go_enter Tryd.func18, Tryd.ntmps18
        go_wp2_with (go_at_call 63; refine (unhide HN).mono ?_; rintro e w1 ⟨rfl, hb1⟩)
        go_ret
        exact ⟨rfl, (unhide hB).trans (hb1.mono (by simp))⟩
      · have h1b : (k == 1) = false := beq_eq_false_iff_ne.2 h1
        rw [h1b, if_neg (by decide)]
        by_cases h3 : k = 3
        · subst h3
          rw [if_pos (by decide)]
          clear HW HM HN
          by_cases hz1 : s.size ≤ 1
          · have hgt : decide ((1 : Int) < (s.size : Int)) = false := by simp; omega
            have E := hide (show dotB s.data.toList = false by
              by_cases hz : s.size = 0
              · rw [empty_of s hz]; rfl
              · rw [head_of s hz, dotB_cons]
                have : formB (s.data.toList.drop 1) = false := by
                  rw [List.drop_eq_nil_of_le (by rw [size_len]; omega)]; rfl
                rw [this, Bool.and_false])
            rw [unhide E]
            go_enter Tryd.func18, Tryd.ntmps18
            go_wp2
            go_ret
            exact ⟨rfl, unhide hB⟩
          · have hgt : (1 : Int) < (s.size : Int) := by omega
            have h0 : s.size ≠ 0 := by omega
            have he := sAt s 0 (by omega)
            have HF := hide (fun w => formS_any (s.extract 1 s.size) w (by rw [rest_size]; omega))
            have E := hide (show dotB s.data.toList = (bAt s.data.toList 0 == 46 && formB (s.extract 1 s.size).data.toList) by
              rw [rest_of]
              conv => lhs; rw [head_of s h0]
              rw [dotB_cons]
              congr 1
              rw [Bool.eq_iff_iff, beq_iff_eq, beq_iff_eq]
              unfold bAt
              constructor
              · intro e; rw [e]; rfl
              · intro e
                apply UInt8.toNat_inj.1
                show _ = 46
                omega)
            rw [unhide E]
            generalize formB (s.extract 1 s.size).data.toList = q at *
            generalize bAt s.data.toList 0 = c at *
            clear E
            cases hc : (c == 46)
            · go_enter Tryd.func18, Tryd.ntmps18
              go_wp2
              go_ret
              exact ⟨rfl, unhide hB⟩
            · go_enter Tryd.func18, Tryd.ntmps18
              go_wp2_with (go_at_call 64; refine (unhide HF _).mono ?_; rintro e w' ⟨rfl, rfl⟩)
              go_ret
              exact ⟨rfl, unhide hB⟩
        · have h3b : (k == 3) = false := beq_eq_false_iff_ne.2 h3
          rw [h3b, if_neg (by decide)]
          by_cases h4 : k = 4
          · subst h4
            rw [if_pos (by decide)]
            generalize markB s.data.toList = q at *
            clear HW HN
            go_enter Tryd.func18, Tryd.ntmps18
            go_wp2_with (go_at_call 65; refine (unhide HM _).mono ?_; rintro e w' ⟨rfl, rfl⟩)
            go_ret
            exact ⟨rfl, unhide hB⟩
          · have h4b : (k == 4) = false := beq_eq_false_iff_ne.2 h4
            rw [h4b, if_neg (by decide)]
            by_cases h5 : k = 5
            · subst h5
              rw [if_pos (by decide)]
              exact unhide T5 rfl rfl
            · have h5b : (k == 5) = false := beq_eq_false_iff_ne.2 h5
              rw [h5b, if_neg (by decide)]
              clear HW HN HM
              go_enter Tryd.func18, Tryd.ntmps18
              go_wp2
              go_ret
              exact ⟨rfl, unhide hB⟩
    · have hnb : (n != 0) = true := by simp [hn]
      rw [hnb, if_pos (by decide)]
      clear HW HN HM
      go_enter Tryd.func18, Tryd.ntmps18
      go_wp2
      go_ret
      exact ⟨rfl, unhide hB⟩
end Go.Proofs.YthgbpofcfmnpdaaDoor
