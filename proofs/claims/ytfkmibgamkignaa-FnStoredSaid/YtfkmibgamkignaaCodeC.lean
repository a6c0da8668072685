/- Contracts of chapter 4's model (Encode), over a trial's translation; conditions stand as hypotheses of each. -/
import Derived.Test.YtfkmibgamkignaaCodeB
namespace Go.Proofs.Ytfkmibgamkignaa
open Go.ChangeShapes Go.WideShapes Go.ChangeAt Go.RowKit
set_option linter.unusedVariables false
set_option maxRecDepth 8000

set_option maxHeartbeats 4000000 in
theorem encS_A (k : Nat) (sm sr sx dm dr dx n : Int) (w : World) (hok : Is.ok ⟨(k : Int), ⟨sm, sr, sx⟩, ⟨dm, dr, dx⟩, n⟩ = true) (h1 : (k : Int) ≤ 6) :
    Calls Try.prog 79 #[.agg #[.int .i64 (k : Int), .int .i64 sm, .int .i64 sr, .int .i64 sx, .int .i64 dm, .int .i64 dr, .int .i64 dx, .int .i64 n]] w fun e w' => ∃ v, e = .returned v ∧ v ≠ .slice none 0 0 ∧ OwnN w' w.heap.size v (Is.code ⟨(k : Int), ⟨sm, sr, sx⟩, ⟨dm, dr, dx⟩, n⟩ :: Is.xs ⟨(k : Int), ⟨sm, sr, sx⟩, ⟨dm, dr, dx⟩, n⟩) ∧ Below w.heap.size w w' := by
  obtain ⟨i0, hi, hz0, hz1, hz2⟩ := info_parts info3
  have HZ := hide (show (w.alloc (Obj.cells #[.int .i64 (k : Int), .int .i64 sm, .int .i64 sr, .int .i64 sx, .int .i64 dm, .int .i64 dr, .int .i64 dx, .int .i64 n] 92)).heap.size = w.heap.size + 1 by simp)
  have HCL := hide (box_cells w #[.int .i64 (k : Int), .int .i64 sm, .int .i64 sr, .int .i64 sx, .int .i64 dm, .int .i64 dr, .int .i64 dx, .int .i64 n] 92)
  have HB := hide (box_below w (Obj.cells #[.int .i64 (k : Int), .int .i64 sm, .int .i64 sr, .int .i64 sx, .int .i64 dm, .int .i64 dr, .int .i64 dx, .int .i64 n] 92))
  have Bz : Below (w.heap.size + 1) (w.alloc (Obj.cells #[.int .i64 (k : Int), .int .i64 sm, .int .i64 sr, .int .i64 sx, .int .i64 dm, .int .i64 dr, .int .i64 dx, .int .i64 n] 92)) (w.alloc (Obj.cells #[.int .i64 (k : Int), .int .i64 sm, .int .i64 sr, .int .i64 sx, .int .i64 dm, .int .i64 dr, .int .i64 dx, .int .i64 n] 92)) := Below.refl _ _
  obtain ⟨⟨q1, q2⟩, q3, q4, q5, q6, q7, q8, q9, q10, q11⟩ := is_ok hok
  simp only at q1 q2 q3 q4 q5 q6 q7 q8 q9 q10 q11
  have hbb := base_bd ⟨k, by omega⟩
  simp only at hbb
  obtain ⟨b, hbk⟩ : ∃ b, baseAt k = b := ⟨_, rfl⟩
  rw [hbk] at hbb
  obtain ⟨p, hp6⟩ : ∃ p, Od.six ⟨sm, sr, sx⟩ = p := ⟨_, rfl⟩
  obtain ⟨q, hq6⟩ : ∃ q, Od.six ⟨dm, dr, dx⟩ = q := ⟨_, rfl⟩
  obtain ⟨sX, hsX⟩ : ∃ q, Od.hasX ⟨sm, sr, sx⟩ = q := ⟨_, rfl⟩
  obtain ⟨dX, hdX⟩ : ∃ q, Od.hasX ⟨dm, dr, dx⟩ = q := ⟨_, rfl⟩
  have hS := (od_ok (q3 (by omega))).1
  simp only at hS
  have hpb : 0 ≤ p ∧ p ≤ 63 := by rw [← hp6]; unfold Od.six; simp only; omega
  have hD := (od_ok (q4 (by omega))).1
  simp only at hD
  have hqb : 0 ≤ q ∧ q ≤ 63 := by rw [← hq6]; unfold Od.six; simp only; omega
  have HCo := hide (show Is.code ⟨(k : Int), ⟨sm, sr, sx⟩, ⟨dm, dr, dx⟩, n⟩ = b + p * 64 + q by unfold Is.code; simp only [Int.toNat_natCast, hp6, hq6, hbk]; rw [if_pos (by omega)])
  have HXs := hide (show Is.xs ⟨(k : Int), ⟨sm, sr, sx⟩, ⟨dm, dr, dx⟩, n⟩ = (if sX = true then [sx] else []) ++ (if dX = true then [dx] else []) by
    unfold Is.xs
    simp only [hsX, hdX]
    have hk6 : (k : Int) ≤ 6 := by omega
    have hk15 : (k : Int) ≤ 15 := by omega
    cases sX <;> cases dX <;> simp [hk6, hk15])
  have hle : (k : Int) ≤ 6 := h1
  have hle15 : (k : Int) ≤ 15 := by omega
  clear h1
  clear q3 q4 q5 q6 q8 q9 q10 q11
  go_enter Try.func79, Try.ntmps79
  go_wp2_with fail
  refine (insOk_any ⟨(k : Int), ⟨sm, sr, sx⟩, ⟨dm, dr, dx⟩, n⟩ _).mono ?_
  rintro e w' ⟨rfl, hb⟩
  have Bz := box_step Bz (unhide HZ) hb
  have a0 : w'.cell? ⟨w.heap.size, 0, none⟩ = some (.int .i64 (k : Int)) := unhide HCL w' Bz 0 _ rfl
  have A0 : ∀ o, (w'.alloc o).cell? ⟨w.heap.size, 0, none⟩ = some (.int .i64 (k : Int)) := fun o => alloc_cell a0 o
  have a1 : w'.cell? ⟨w.heap.size, 1, none⟩ = some (.int .i64 sm) := unhide HCL w' Bz 1 _ rfl
  have A1 : ∀ o, (w'.alloc o).cell? ⟨w.heap.size, 1, none⟩ = some (.int .i64 sm) := fun o => alloc_cell a1 o
  have a2 : w'.cell? ⟨w.heap.size, 2, none⟩ = some (.int .i64 sr) := unhide HCL w' Bz 2 _ rfl
  have A2 : ∀ o, (w'.alloc o).cell? ⟨w.heap.size, 2, none⟩ = some (.int .i64 sr) := fun o => alloc_cell a2 o
  have a3 : w'.cell? ⟨w.heap.size, 3, none⟩ = some (.int .i64 sx) := unhide HCL w' Bz 3 _ rfl
  have A3 : ∀ o, (w'.alloc o).cell? ⟨w.heap.size, 3, none⟩ = some (.int .i64 sx) := fun o => alloc_cell a3 o
  have a4 : w'.cell? ⟨w.heap.size, 4, none⟩ = some (.int .i64 dm) := unhide HCL w' Bz 4 _ rfl
  have A4 : ∀ o, (w'.alloc o).cell? ⟨w.heap.size, 4, none⟩ = some (.int .i64 dm) := fun o => alloc_cell a4 o
  have a5 : w'.cell? ⟨w.heap.size, 5, none⟩ = some (.int .i64 dr) := unhide HCL w' Bz 5 _ rfl
  have A5 : ∀ o, (w'.alloc o).cell? ⟨w.heap.size, 5, none⟩ = some (.int .i64 dr) := fun o => alloc_cell a5 o
  have a6 : w'.cell? ⟨w.heap.size, 6, none⟩ = some (.int .i64 dx) := unhide HCL w' Bz 6 _ rfl
  have A6 : ∀ o, (w'.alloc o).cell? ⟨w.heap.size, 6, none⟩ = some (.int .i64 dx) := fun o => alloc_cell a6 o
  have a7 : w'.cell? ⟨w.heap.size, 7, none⟩ = some (.int .i64 n) := unhide HCL w' Bz 7 _ rfl
  have A7 : ∀ o, (w'.alloc o).cell? ⟨w.heap.size, 7, none⟩ = some (.int .i64 n) := fun o => alloc_cell a7 o
  clear hb
  rw [hok]
  go_wp2_with fail
  refine (base_any k (by omega) _).mono ?_
  rintro e w' ⟨rfl, hb⟩
  have Bz := box_step Bz (unhide HZ) hb
  have a0 : w'.cell? ⟨w.heap.size, 0, none⟩ = some (.int .i64 (k : Int)) := unhide HCL w' Bz 0 _ rfl
  have A0 : ∀ o, (w'.alloc o).cell? ⟨w.heap.size, 0, none⟩ = some (.int .i64 (k : Int)) := fun o => alloc_cell a0 o
  have a1 : w'.cell? ⟨w.heap.size, 1, none⟩ = some (.int .i64 sm) := unhide HCL w' Bz 1 _ rfl
  have A1 : ∀ o, (w'.alloc o).cell? ⟨w.heap.size, 1, none⟩ = some (.int .i64 sm) := fun o => alloc_cell a1 o
  have a2 : w'.cell? ⟨w.heap.size, 2, none⟩ = some (.int .i64 sr) := unhide HCL w' Bz 2 _ rfl
  have A2 : ∀ o, (w'.alloc o).cell? ⟨w.heap.size, 2, none⟩ = some (.int .i64 sr) := fun o => alloc_cell a2 o
  have a3 : w'.cell? ⟨w.heap.size, 3, none⟩ = some (.int .i64 sx) := unhide HCL w' Bz 3 _ rfl
  have A3 : ∀ o, (w'.alloc o).cell? ⟨w.heap.size, 3, none⟩ = some (.int .i64 sx) := fun o => alloc_cell a3 o
  have a4 : w'.cell? ⟨w.heap.size, 4, none⟩ = some (.int .i64 dm) := unhide HCL w' Bz 4 _ rfl
  have A4 : ∀ o, (w'.alloc o).cell? ⟨w.heap.size, 4, none⟩ = some (.int .i64 dm) := fun o => alloc_cell a4 o
  have a5 : w'.cell? ⟨w.heap.size, 5, none⟩ = some (.int .i64 dr) := unhide HCL w' Bz 5 _ rfl
  have A5 : ∀ o, (w'.alloc o).cell? ⟨w.heap.size, 5, none⟩ = some (.int .i64 dr) := fun o => alloc_cell a5 o
  have a6 : w'.cell? ⟨w.heap.size, 6, none⟩ = some (.int .i64 dx) := unhide HCL w' Bz 6 _ rfl
  have A6 : ∀ o, (w'.alloc o).cell? ⟨w.heap.size, 6, none⟩ = some (.int .i64 dx) := fun o => alloc_cell a6 o
  have a7 : w'.cell? ⟨w.heap.size, 7, none⟩ = some (.int .i64 n) := unhide HCL w' Bz 7 _ rfl
  have A7 : ∀ o, (w'.alloc o).cell? ⟨w.heap.size, 7, none⟩ = some (.int .i64 n) := fun o => alloc_cell a7 o
  clear hb
  rw [hbk]
  go_wp2
  go_region_with (go_at_call 97; refine (six_any ⟨_, _, _⟩ (by simp only; omega) _).mono ?_; rintro e w' ⟨rfl, hb⟩; (first | have Bz := box_step Bz (unhide HZ) hb | have Bz := box_stepd Bz (unhide HZ) hb); have a0 : w'.cell? ⟨w.heap.size, 0, none⟩ = some (.int .i64 (k : Int)) := unhide HCL w' Bz 0 _ rfl; have A0 : ∀ o, (w'.alloc o).cell? ⟨w.heap.size, 0, none⟩ = some (.int .i64 (k : Int)) := fun o => alloc_cell a0 o; have a1 : w'.cell? ⟨w.heap.size, 1, none⟩ = some (.int .i64 sm) := unhide HCL w' Bz 1 _ rfl; have A1 : ∀ o, (w'.alloc o).cell? ⟨w.heap.size, 1, none⟩ = some (.int .i64 sm) := fun o => alloc_cell a1 o; have a2 : w'.cell? ⟨w.heap.size, 2, none⟩ = some (.int .i64 sr) := unhide HCL w' Bz 2 _ rfl; have A2 : ∀ o, (w'.alloc o).cell? ⟨w.heap.size, 2, none⟩ = some (.int .i64 sr) := fun o => alloc_cell a2 o; have a3 : w'.cell? ⟨w.heap.size, 3, none⟩ = some (.int .i64 sx) := unhide HCL w' Bz 3 _ rfl; have A3 : ∀ o, (w'.alloc o).cell? ⟨w.heap.size, 3, none⟩ = some (.int .i64 sx) := fun o => alloc_cell a3 o; have a4 : w'.cell? ⟨w.heap.size, 4, none⟩ = some (.int .i64 dm) := unhide HCL w' Bz 4 _ rfl; have A4 : ∀ o, (w'.alloc o).cell? ⟨w.heap.size, 4, none⟩ = some (.int .i64 dm) := fun o => alloc_cell a4 o; have a5 : w'.cell? ⟨w.heap.size, 5, none⟩ = some (.int .i64 dr) := unhide HCL w' Bz 5 _ rfl; have A5 : ∀ o, (w'.alloc o).cell? ⟨w.heap.size, 5, none⟩ = some (.int .i64 dr) := fun o => alloc_cell a5 o; have a6 : w'.cell? ⟨w.heap.size, 6, none⟩ = some (.int .i64 dx) := unhide HCL w' Bz 6 _ rfl; have A6 : ∀ o, (w'.alloc o).cell? ⟨w.heap.size, 6, none⟩ = some (.int .i64 dx) := fun o => alloc_cell a6 o; have a7 : w'.cell? ⟨w.heap.size, 7, none⟩ = some (.int .i64 n) := unhide HCL w' Bz 7 _ rfl; have A7 : ∀ o, (w'.alloc o).cell? ⟨w.heap.size, 7, none⟩ = some (.int .i64 n) := fun o => alloc_cell a7 o; clear hb)
  all_goals
    have hsz := Bz.size
    rw [unhide HZ] at hsz
    have OO := hide ((own_one w' (b + p * 64 + q)).base (show w.heap.size + 1 ≤ w'.heap.size by omega))
    have HN : (Value.slice (some ⟨w'.heap.size, 0, none⟩) 1 1) ≠ .slice none 0 0 := by simp
    have B0 := box_step Bz (unhide HZ) ((Below.refl w'.heap.size w').alloc (Nat.le_refl _) (Obj.cells #[.int .i64 (b + p * 64 + q)] 3))
    go_wp2_with fail
    refine (hasX_any ⟨sm, sr, sx⟩ _).mono ?_
    rintro e w5 ⟨rfl, hb⟩
    have Bz := box_step B0 (unhide HZ) hb
    have a0 : w5.cell? ⟨w.heap.size, 0, none⟩ = some (.int .i64 (k : Int)) := unhide HCL w5 Bz 0 _ rfl
    have A0 : ∀ o, (w5.alloc o).cell? ⟨w.heap.size, 0, none⟩ = some (.int .i64 (k : Int)) := fun o => alloc_cell a0 o
    have a1 : w5.cell? ⟨w.heap.size, 1, none⟩ = some (.int .i64 sm) := unhide HCL w5 Bz 1 _ rfl
    have A1 : ∀ o, (w5.alloc o).cell? ⟨w.heap.size, 1, none⟩ = some (.int .i64 sm) := fun o => alloc_cell a1 o
    have a2 : w5.cell? ⟨w.heap.size, 2, none⟩ = some (.int .i64 sr) := unhide HCL w5 Bz 2 _ rfl
    have A2 : ∀ o, (w5.alloc o).cell? ⟨w.heap.size, 2, none⟩ = some (.int .i64 sr) := fun o => alloc_cell a2 o
    have a3 : w5.cell? ⟨w.heap.size, 3, none⟩ = some (.int .i64 sx) := unhide HCL w5 Bz 3 _ rfl
    have A3 : ∀ o, (w5.alloc o).cell? ⟨w.heap.size, 3, none⟩ = some (.int .i64 sx) := fun o => alloc_cell a3 o
    have a4 : w5.cell? ⟨w.heap.size, 4, none⟩ = some (.int .i64 dm) := unhide HCL w5 Bz 4 _ rfl
    have A4 : ∀ o, (w5.alloc o).cell? ⟨w.heap.size, 4, none⟩ = some (.int .i64 dm) := fun o => alloc_cell a4 o
    have a5 : w5.cell? ⟨w.heap.size, 5, none⟩ = some (.int .i64 dr) := unhide HCL w5 Bz 5 _ rfl
    have A5 : ∀ o, (w5.alloc o).cell? ⟨w.heap.size, 5, none⟩ = some (.int .i64 dr) := fun o => alloc_cell a5 o
    have a6 : w5.cell? ⟨w.heap.size, 6, none⟩ = some (.int .i64 dx) := unhide HCL w5 Bz 6 _ rfl
    have A6 : ∀ o, (w5.alloc o).cell? ⟨w.heap.size, 6, none⟩ = some (.int .i64 dx) := fun o => alloc_cell a6 o
    have a7 : w5.cell? ⟨w.heap.size, 7, none⟩ = some (.int .i64 n) := unhide HCL w5 Bz 7 _ rfl
    have A7 : ∀ o, (w5.alloc o).cell? ⟨w.heap.size, 7, none⟩ = some (.int .i64 n) := fun o => alloc_cell a7 o
    have OO := hide ((unhide OO).later hb)
    clear hb B0
    rw [hsX]
    cases sX
    · go_wp2_with fail
      have B0 := Bz
      refine (hasX_any ⟨dm, dr, dx⟩ _).mono ?_
      rintro e w7 ⟨rfl, hb⟩
      have Bz := box_step B0 (unhide HZ) hb
      have a0 : w7.cell? ⟨w.heap.size, 0, none⟩ = some (.int .i64 (k : Int)) := unhide HCL w7 Bz 0 _ rfl
      have A0 : ∀ o, (w7.alloc o).cell? ⟨w.heap.size, 0, none⟩ = some (.int .i64 (k : Int)) := fun o => alloc_cell a0 o
      have a1 : w7.cell? ⟨w.heap.size, 1, none⟩ = some (.int .i64 sm) := unhide HCL w7 Bz 1 _ rfl
      have A1 : ∀ o, (w7.alloc o).cell? ⟨w.heap.size, 1, none⟩ = some (.int .i64 sm) := fun o => alloc_cell a1 o
      have a2 : w7.cell? ⟨w.heap.size, 2, none⟩ = some (.int .i64 sr) := unhide HCL w7 Bz 2 _ rfl
      have A2 : ∀ o, (w7.alloc o).cell? ⟨w.heap.size, 2, none⟩ = some (.int .i64 sr) := fun o => alloc_cell a2 o
      have a3 : w7.cell? ⟨w.heap.size, 3, none⟩ = some (.int .i64 sx) := unhide HCL w7 Bz 3 _ rfl
      have A3 : ∀ o, (w7.alloc o).cell? ⟨w.heap.size, 3, none⟩ = some (.int .i64 sx) := fun o => alloc_cell a3 o
      have a4 : w7.cell? ⟨w.heap.size, 4, none⟩ = some (.int .i64 dm) := unhide HCL w7 Bz 4 _ rfl
      have A4 : ∀ o, (w7.alloc o).cell? ⟨w.heap.size, 4, none⟩ = some (.int .i64 dm) := fun o => alloc_cell a4 o
      have a5 : w7.cell? ⟨w.heap.size, 5, none⟩ = some (.int .i64 dr) := unhide HCL w7 Bz 5 _ rfl
      have A5 : ∀ o, (w7.alloc o).cell? ⟨w.heap.size, 5, none⟩ = some (.int .i64 dr) := fun o => alloc_cell a5 o
      have a6 : w7.cell? ⟨w.heap.size, 6, none⟩ = some (.int .i64 dx) := unhide HCL w7 Bz 6 _ rfl
      have A6 : ∀ o, (w7.alloc o).cell? ⟨w.heap.size, 6, none⟩ = some (.int .i64 dx) := fun o => alloc_cell a6 o
      have a7 : w7.cell? ⟨w.heap.size, 7, none⟩ = some (.int .i64 n) := unhide HCL w7 Bz 7 _ rfl
      have A7 : ∀ o, (w7.alloc o).cell? ⟨w.heap.size, 7, none⟩ = some (.int .i64 n) := fun o => alloc_cell a7 o
      have OO := hide ((unhide OO).later hb)
      clear hb B0
      rw [hdX]
      cases dX
      · go_wp2
        go_ret
        exact ⟨(.slice (some ⟨w'.heap.size, 0, none⟩) 1 1), rfl, HN, by rw [unhide HCo, unhide HXs]; exact (unhide OO).base (by omega), unhide HB _ Bz⟩
      · have K1 := hide (cell_one_new w7 (Value.int .i64 (dx)) 3)
        have szc := Bz.size
        rw [unhide HZ] at szc
        go_wp2_with (at_builtin; go_must (refine wpList_append_own _ rfl (.tmp 94) (.tmp 98) 24 rfl (w.heap.size + 1) 3 i0 (.int .i64 0) 1 8 Try.underlying24 hi hz0 hz1 hz2 rfl (by decide) (.slice (some ⟨w'.heap.size, 0, none⟩) 1 1) 1 (cellsN [b + p * 64 + q]) rfl ((unhide OO).alloc _) ⟨w7.heap.size, 0, none⟩ 1 1 (cellsN [dx]) rfl rfl (unhide K1) (cellsN_one _) (by unfold maxLen; omega) (by omega) (by simp; omega) ?_; intro v8 w8 hown hgrow hnil; have Bz := box_app Bz (unhide HZ) _ hgrow (unhide OO) (Nat.le_refl _); have a0 : w8.cell? ⟨w.heap.size, 0, none⟩ = some (.int .i64 (k : Int)) := unhide HCL w8 Bz 0 _ rfl; have A0 : ∀ o, (w8.alloc o).cell? ⟨w.heap.size, 0, none⟩ = some (.int .i64 (k : Int)) := fun o => alloc_cell a0 o; have a1 : w8.cell? ⟨w.heap.size, 1, none⟩ = some (.int .i64 sm) := unhide HCL w8 Bz 1 _ rfl; have A1 : ∀ o, (w8.alloc o).cell? ⟨w.heap.size, 1, none⟩ = some (.int .i64 sm) := fun o => alloc_cell a1 o; have a2 : w8.cell? ⟨w.heap.size, 2, none⟩ = some (.int .i64 sr) := unhide HCL w8 Bz 2 _ rfl; have A2 : ∀ o, (w8.alloc o).cell? ⟨w.heap.size, 2, none⟩ = some (.int .i64 sr) := fun o => alloc_cell a2 o; have a3 : w8.cell? ⟨w.heap.size, 3, none⟩ = some (.int .i64 sx) := unhide HCL w8 Bz 3 _ rfl; have A3 : ∀ o, (w8.alloc o).cell? ⟨w.heap.size, 3, none⟩ = some (.int .i64 sx) := fun o => alloc_cell a3 o; have a4 : w8.cell? ⟨w.heap.size, 4, none⟩ = some (.int .i64 dm) := unhide HCL w8 Bz 4 _ rfl; have A4 : ∀ o, (w8.alloc o).cell? ⟨w.heap.size, 4, none⟩ = some (.int .i64 dm) := fun o => alloc_cell a4 o; have a5 : w8.cell? ⟨w.heap.size, 5, none⟩ = some (.int .i64 dr) := unhide HCL w8 Bz 5 _ rfl; have A5 : ∀ o, (w8.alloc o).cell? ⟨w.heap.size, 5, none⟩ = some (.int .i64 dr) := fun o => alloc_cell a5 o; have a6 : w8.cell? ⟨w.heap.size, 6, none⟩ = some (.int .i64 dx) := unhide HCL w8 Bz 6 _ rfl; have A6 : ∀ o, (w8.alloc o).cell? ⟨w.heap.size, 6, none⟩ = some (.int .i64 dx) := fun o => alloc_cell a6 o; have a7 : w8.cell? ⟨w.heap.size, 7, none⟩ = some (.int .i64 n) := unhide HCL w8 Bz 7 _ rfl; have A7 : ∀ o, (w8.alloc o).cell? ⟨w.heap.size, 7, none⟩ = some (.int .i64 n) := fun o => alloc_cell a7 o))
        have HN : v8 ≠ .slice none 0 0 := fun e => by have := hnil.1 e; omega
        have OO := hide (show OwnN w8 (w.heap.size + 1) v8 [b + p * 64 + q, dx] from hown)
        clear hown hgrow hnil K1
        go_wp2
        go_ret
        exact ⟨v8, rfl, HN, by rw [unhide HCo, unhide HXs]; exact (unhide OO).base (by omega), unhide HB _ Bz⟩
    · have K1 := hide (cell_one_new w5 (Value.int .i64 (sx)) 3)
      have szc := Bz.size
      rw [unhide HZ] at szc
      go_wp2_with (at_builtin; go_must (refine wpList_append_own _ rfl (.tmp 80) (.tmp 84) 24 rfl (w.heap.size + 1) 3 i0 (.int .i64 0) 1 8 Try.underlying24 hi hz0 hz1 hz2 rfl (by decide) (.slice (some ⟨w'.heap.size, 0, none⟩) 1 1) 1 (cellsN [b + p * 64 + q]) rfl ((unhide OO).alloc _) ⟨w5.heap.size, 0, none⟩ 1 1 (cellsN [sx]) rfl rfl (unhide K1) (cellsN_one _) (by unfold maxLen; omega) (by omega) (by simp; omega) ?_; intro v6 w6 hown hgrow hnil; have Bz := box_app Bz (unhide HZ) _ hgrow (unhide OO) (Nat.le_refl _); have a0 : w6.cell? ⟨w.heap.size, 0, none⟩ = some (.int .i64 (k : Int)) := unhide HCL w6 Bz 0 _ rfl; have A0 : ∀ o, (w6.alloc o).cell? ⟨w.heap.size, 0, none⟩ = some (.int .i64 (k : Int)) := fun o => alloc_cell a0 o; have a1 : w6.cell? ⟨w.heap.size, 1, none⟩ = some (.int .i64 sm) := unhide HCL w6 Bz 1 _ rfl; have A1 : ∀ o, (w6.alloc o).cell? ⟨w.heap.size, 1, none⟩ = some (.int .i64 sm) := fun o => alloc_cell a1 o; have a2 : w6.cell? ⟨w.heap.size, 2, none⟩ = some (.int .i64 sr) := unhide HCL w6 Bz 2 _ rfl; have A2 : ∀ o, (w6.alloc o).cell? ⟨w.heap.size, 2, none⟩ = some (.int .i64 sr) := fun o => alloc_cell a2 o; have a3 : w6.cell? ⟨w.heap.size, 3, none⟩ = some (.int .i64 sx) := unhide HCL w6 Bz 3 _ rfl; have A3 : ∀ o, (w6.alloc o).cell? ⟨w.heap.size, 3, none⟩ = some (.int .i64 sx) := fun o => alloc_cell a3 o; have a4 : w6.cell? ⟨w.heap.size, 4, none⟩ = some (.int .i64 dm) := unhide HCL w6 Bz 4 _ rfl; have A4 : ∀ o, (w6.alloc o).cell? ⟨w.heap.size, 4, none⟩ = some (.int .i64 dm) := fun o => alloc_cell a4 o; have a5 : w6.cell? ⟨w.heap.size, 5, none⟩ = some (.int .i64 dr) := unhide HCL w6 Bz 5 _ rfl; have A5 : ∀ o, (w6.alloc o).cell? ⟨w.heap.size, 5, none⟩ = some (.int .i64 dr) := fun o => alloc_cell a5 o; have a6 : w6.cell? ⟨w.heap.size, 6, none⟩ = some (.int .i64 dx) := unhide HCL w6 Bz 6 _ rfl; have A6 : ∀ o, (w6.alloc o).cell? ⟨w.heap.size, 6, none⟩ = some (.int .i64 dx) := fun o => alloc_cell a6 o; have a7 : w6.cell? ⟨w.heap.size, 7, none⟩ = some (.int .i64 n) := unhide HCL w6 Bz 7 _ rfl; have A7 : ∀ o, (w6.alloc o).cell? ⟨w.heap.size, 7, none⟩ = some (.int .i64 n) := fun o => alloc_cell a7 o))
      have HN : v6 ≠ .slice none 0 0 := fun e => by have := hnil.1 e; omega
      have OO := hide (show OwnN w6 (w.heap.size + 1) v6 [b + p * 64 + q, sx] from hown)
      clear hown hgrow hnil K1
      have B0 := Bz
      refine (hasX_any ⟨dm, dr, dx⟩ _).mono ?_
      rintro e w7 ⟨rfl, hb⟩
      have Bz := box_step B0 (unhide HZ) hb
      have a0 : w7.cell? ⟨w.heap.size, 0, none⟩ = some (.int .i64 (k : Int)) := unhide HCL w7 Bz 0 _ rfl
      have A0 : ∀ o, (w7.alloc o).cell? ⟨w.heap.size, 0, none⟩ = some (.int .i64 (k : Int)) := fun o => alloc_cell a0 o
      have a1 : w7.cell? ⟨w.heap.size, 1, none⟩ = some (.int .i64 sm) := unhide HCL w7 Bz 1 _ rfl
      have A1 : ∀ o, (w7.alloc o).cell? ⟨w.heap.size, 1, none⟩ = some (.int .i64 sm) := fun o => alloc_cell a1 o
      have a2 : w7.cell? ⟨w.heap.size, 2, none⟩ = some (.int .i64 sr) := unhide HCL w7 Bz 2 _ rfl
      have A2 : ∀ o, (w7.alloc o).cell? ⟨w.heap.size, 2, none⟩ = some (.int .i64 sr) := fun o => alloc_cell a2 o
      have a3 : w7.cell? ⟨w.heap.size, 3, none⟩ = some (.int .i64 sx) := unhide HCL w7 Bz 3 _ rfl
      have A3 : ∀ o, (w7.alloc o).cell? ⟨w.heap.size, 3, none⟩ = some (.int .i64 sx) := fun o => alloc_cell a3 o
      have a4 : w7.cell? ⟨w.heap.size, 4, none⟩ = some (.int .i64 dm) := unhide HCL w7 Bz 4 _ rfl
      have A4 : ∀ o, (w7.alloc o).cell? ⟨w.heap.size, 4, none⟩ = some (.int .i64 dm) := fun o => alloc_cell a4 o
      have a5 : w7.cell? ⟨w.heap.size, 5, none⟩ = some (.int .i64 dr) := unhide HCL w7 Bz 5 _ rfl
      have A5 : ∀ o, (w7.alloc o).cell? ⟨w.heap.size, 5, none⟩ = some (.int .i64 dr) := fun o => alloc_cell a5 o
      have a6 : w7.cell? ⟨w.heap.size, 6, none⟩ = some (.int .i64 dx) := unhide HCL w7 Bz 6 _ rfl
      have A6 : ∀ o, (w7.alloc o).cell? ⟨w.heap.size, 6, none⟩ = some (.int .i64 dx) := fun o => alloc_cell a6 o
      have a7 : w7.cell? ⟨w.heap.size, 7, none⟩ = some (.int .i64 n) := unhide HCL w7 Bz 7 _ rfl
      have A7 : ∀ o, (w7.alloc o).cell? ⟨w.heap.size, 7, none⟩ = some (.int .i64 n) := fun o => alloc_cell a7 o
      have OO := hide ((unhide OO).later hb)
      clear hb B0
      rw [hdX]
      cases dX
      · go_wp2
        go_ret
        exact ⟨v6, rfl, HN, by rw [unhide HCo, unhide HXs]; exact (unhide OO).base (by omega), unhide HB _ Bz⟩
      · have K1 := hide (cell_one_new w7 (Value.int .i64 (dx)) 3)
        have szc := Bz.size
        rw [unhide HZ] at szc
        go_wp2_with (at_builtin; go_must (refine wpList_append_own _ rfl (.tmp 94) (.tmp 98) 24 rfl (w.heap.size + 1) 3 i0 (.int .i64 0) 1 8 Try.underlying24 hi hz0 hz1 hz2 rfl (by decide) v6 2 (cellsN [b + p * 64 + q, sx]) rfl ((unhide OO).alloc _) ⟨w7.heap.size, 0, none⟩ 1 1 (cellsN [dx]) rfl rfl (unhide K1) (cellsN_one _) (by unfold maxLen; omega) (by omega) (by simp; omega) ?_; intro v8 w8 hown hgrow hnil; have Bz := box_app Bz (unhide HZ) _ hgrow (unhide OO) (Nat.le_refl _); have a0 : w8.cell? ⟨w.heap.size, 0, none⟩ = some (.int .i64 (k : Int)) := unhide HCL w8 Bz 0 _ rfl; have A0 : ∀ o, (w8.alloc o).cell? ⟨w.heap.size, 0, none⟩ = some (.int .i64 (k : Int)) := fun o => alloc_cell a0 o; have a1 : w8.cell? ⟨w.heap.size, 1, none⟩ = some (.int .i64 sm) := unhide HCL w8 Bz 1 _ rfl; have A1 : ∀ o, (w8.alloc o).cell? ⟨w.heap.size, 1, none⟩ = some (.int .i64 sm) := fun o => alloc_cell a1 o; have a2 : w8.cell? ⟨w.heap.size, 2, none⟩ = some (.int .i64 sr) := unhide HCL w8 Bz 2 _ rfl; have A2 : ∀ o, (w8.alloc o).cell? ⟨w.heap.size, 2, none⟩ = some (.int .i64 sr) := fun o => alloc_cell a2 o; have a3 : w8.cell? ⟨w.heap.size, 3, none⟩ = some (.int .i64 sx) := unhide HCL w8 Bz 3 _ rfl; have A3 : ∀ o, (w8.alloc o).cell? ⟨w.heap.size, 3, none⟩ = some (.int .i64 sx) := fun o => alloc_cell a3 o; have a4 : w8.cell? ⟨w.heap.size, 4, none⟩ = some (.int .i64 dm) := unhide HCL w8 Bz 4 _ rfl; have A4 : ∀ o, (w8.alloc o).cell? ⟨w.heap.size, 4, none⟩ = some (.int .i64 dm) := fun o => alloc_cell a4 o; have a5 : w8.cell? ⟨w.heap.size, 5, none⟩ = some (.int .i64 dr) := unhide HCL w8 Bz 5 _ rfl; have A5 : ∀ o, (w8.alloc o).cell? ⟨w.heap.size, 5, none⟩ = some (.int .i64 dr) := fun o => alloc_cell a5 o; have a6 : w8.cell? ⟨w.heap.size, 6, none⟩ = some (.int .i64 dx) := unhide HCL w8 Bz 6 _ rfl; have A6 : ∀ o, (w8.alloc o).cell? ⟨w.heap.size, 6, none⟩ = some (.int .i64 dx) := fun o => alloc_cell a6 o; have a7 : w8.cell? ⟨w.heap.size, 7, none⟩ = some (.int .i64 n) := unhide HCL w8 Bz 7 _ rfl; have A7 : ∀ o, (w8.alloc o).cell? ⟨w.heap.size, 7, none⟩ = some (.int .i64 n) := fun o => alloc_cell a7 o))
        have HN : v8 ≠ .slice none 0 0 := fun e => by have := hnil.1 e; omega
        have OO := hide (show OwnN w8 (w.heap.size + 1) v8 [b + p * 64 + q, sx, dx] from hown)
        clear hown hgrow hnil K1
        go_wp2
        go_ret
        exact ⟨v8, rfl, HN, by rw [unhide HCo, unhide HXs]; exact (unhide OO).base (by omega), unhide HB _ Bz⟩

end Go.Proofs.Ytfkmibgamkignaa
