/- Contracts over this seat's translation, laid together; conditions stand as hypotheses of each. -/
import Derived.Test.YtfkmibgamkignaaBndG
import Derived.Test.YtfkmibgamkignaaBndH

namespace Go.Proofs.Ytfkmibgamkignaa
open Go.ChangeShapes Go.WideShapes Go.ChangeAt Go.RowKit
set_option linter.unusedVariables false
set_option maxRecDepth 8000

set_option maxHeartbeats 4000000 in
theorem encS_C (k : Nat) (sm sr sx dm dr dx n : Int) (w : World) (hok : Is.ok ⟨(k : Int), ⟨sm, sr, sx⟩, ⟨dm, dr, dx⟩, n⟩ = true) (h1 : (k : Int) = 15) :
    Calls Try.prog 79 #[.agg #[.int .i64 (k : Int), .int .i64 sm, .int .i64 sr, .int .i64 sx, .int .i64 dm, .int .i64 dr, .int .i64 dx, .int .i64 n]] w fun e w' => ∃ v, e = .returned v ∧ v ≠ .slice none 0 0 ∧ OwnN w' w.heap.size v (Is.code ⟨(k : Int), ⟨sm, sr, sx⟩, ⟨dm, dr, dx⟩, n⟩ :: Is.xs ⟨(k : Int), ⟨sm, sr, sx⟩, ⟨dm, dr, dx⟩, n⟩) ∧ Below w.heap.size w w' := by
  obtain ⟨i0, hi, hz0, hz1, hz2⟩ := info_parts info3
  have HZ := hide (show (w.alloc (Obj.cells #[.int .i64 (k : Int), .int .i64 sm, .int .i64 sr, .int .i64 sx, .int .i64 dm, .int .i64 dr, .int .i64 dx, .int .i64 n] 92)).heap.size = w.heap.size + 1 by simp)
  have HCL := hide (box_cells w #[.int .i64 (k : Int), .int .i64 sm, .int .i64 sr, .int .i64 sx, .int .i64 dm, .int .i64 dr, .int .i64 dx, .int .i64 n] 92)
  have HB := hide (box_below w (Obj.cells #[.int .i64 (k : Int), .int .i64 sm, .int .i64 sr, .int .i64 sx, .int .i64 dm, .int .i64 dr, .int .i64 dx, .int .i64 n] 92))
  have Bz : Below (w.heap.size + 1) (w.alloc (Obj.cells #[.int .i64 (k : Int), .int .i64 sm, .int .i64 sr, .int .i64 sx, .int .i64 dm, .int .i64 dr, .int .i64 dx, .int .i64 n] 92)) (w.alloc (Obj.cells #[.int .i64 (k : Int), .int .i64 sm, .int .i64 sr, .int .i64 sx, .int .i64 dm, .int .i64 dr, .int .i64 dx, .int .i64 n] 92)) := Below.refl _ _
  obtain ⟨⟨q1, q2⟩, q3, q4, q5, q6, q7, q8, q9, q10, q11⟩ := is_ok hok
  simp only at q1 q2 q3 q4 q5 q6 q7 q8 q9 q10 q11
  have hbb := base_bd ⟨k, by omega⟩
  simp only at hbb
  obtain ⟨b, hbk⟩ : ∃ b, baseAt k = b := ⟨_, rfl⟩
  rw [hbk] at hbb
  obtain ⟨p, hp6⟩ : ∃ p, Od.six ⟨sm, sr, sx⟩ = p := ⟨_, rfl⟩
  obtain ⟨q, hq6⟩ : ∃ q, Od.six ⟨dm, dr, dx⟩ = q := ⟨_, rfl⟩
  obtain ⟨sX, hsX⟩ : ∃ q, Od.hasX ⟨sm, sr, sx⟩ = q := ⟨_, rfl⟩
  obtain ⟨dX, hdX⟩ : ∃ q, Od.hasX ⟨dm, dr, dx⟩ = q := ⟨_, rfl⟩
  have hD := (od_ok (q4 (by omega))).1
  simp only at hD
  have hqb : 0 ≤ q ∧ q ≤ 63 := by rw [← hq6]; unfold Od.six; simp only; omega
  have HCo := hide (show Is.code ⟨(k : Int), ⟨sm, sr, sx⟩, ⟨dm, dr, dx⟩, n⟩ = b + n * 64 + q by unfold Is.code; simp only [Int.toNat_natCast, hp6, hq6, hbk]; rw [if_neg (by omega)]; rw [if_neg (by omega)]; rw [if_pos (by omega)])
  have HXs := hide (show Is.xs ⟨(k : Int), ⟨sm, sr, sx⟩, ⟨dm, dr, dx⟩, n⟩ = (if dX = true then [dx] else []) by
    unfold Is.xs
    simp only [hsX, hdX]
    rw [if_neg (by omega), List.nil_append]
    have hk15 : (k : Int) ≤ 15 := by omega
    cases dX <;> simp [hk15])
  have hle : ((k : Int) == 15) = true := by simp; omega
  have hle15 : (k : Int) ≤ 15 := by omega
  have hnb := q9 (by omega)
  have nd6 : decide ((k : Int) ≤ 6) = false := by simp; omega
  have nd14 : decide ((k : Int) ≤ 14) = false := by simp; omega
  clear h1
  clear q3 q4 q5 q6 q8 q9 q10 q11
  go_enter Try.func79, Try.ntmps79
  go_wp2_with fail
  refine (insOk_any ⟨(k : Int), ⟨sm, sr, sx⟩, ⟨dm, dr, dx⟩, n⟩ _).mono ?_
  rintro e w' ⟨rfl, hb⟩
  have Bz := box_step Bz (unhide HZ) hb
  have a0 : w'.cell? ⟨w.heap.size, 0, none⟩ = some (.int .i64 (k : Int)) := unhide HCL w' Bz 0 _ rfl
  have A0 : ∀ o, (w'.alloc o).cell? ⟨w.heap.size, 0, none⟩ = some (.int .i64 (k : Int)) := fun o => alloc_cell a0 o
  have a1 : w'.cell? ⟨w.heap.size, 1, none⟩ = some (.int .i64 sm) := unhide HCL w' Bz 1 _ rfl
  have A1 : ∀ o, (w'.alloc o).cell? ⟨w.heap.size, 1, none⟩ = some (.int .i64 sm) := fun o => alloc_cell a1 o
  have a2 : w'.cell? ⟨w.heap.size, 2, none⟩ = some (.int .i64 sr) := unhide HCL w' Bz 2 _ rfl
  have A2 : ∀ o, (w'.alloc o).cell? ⟨w.heap.size, 2, none⟩ = some (.int .i64 sr) := fun o => alloc_cell a2 o
  have a3 : w'.cell? ⟨w.heap.size, 3, none⟩ = some (.int .i64 sx) := unhide HCL w' Bz 3 _ rfl
  have A3 : ∀ o, (w'.alloc o).cell? ⟨w.heap.size, 3, none⟩ = some (.int .i64 sx) := fun o => alloc_cell a3 o
  have a4 : w'.cell? ⟨w.heap.size, 4, none⟩ = some (.int .i64 dm) := unhide HCL w' Bz 4 _ rfl
  have A4 : ∀ o, (w'.alloc o).cell? ⟨w.heap.size, 4, none⟩ = some (.int .i64 dm) := fun o => alloc_cell a4 o
  have a5 : w'.cell? ⟨w.heap.size, 5, none⟩ = some (.int .i64 dr) := unhide HCL w' Bz 5 _ rfl
  have A5 : ∀ o, (w'.alloc o).cell? ⟨w.heap.size, 5, none⟩ = some (.int .i64 dr) := fun o => alloc_cell a5 o
  have a6 : w'.cell? ⟨w.heap.size, 6, none⟩ = some (.int .i64 dx) := unhide HCL w' Bz 6 _ rfl
  have A6 : ∀ o, (w'.alloc o).cell? ⟨w.heap.size, 6, none⟩ = some (.int .i64 dx) := fun o => alloc_cell a6 o
  have a7 : w'.cell? ⟨w.heap.size, 7, none⟩ = some (.int .i64 n) := unhide HCL w' Bz 7 _ rfl
  have A7 : ∀ o, (w'.alloc o).cell? ⟨w.heap.size, 7, none⟩ = some (.int .i64 n) := fun o => alloc_cell a7 o
  clear hb
  rw [hok]
  go_wp2_with fail
  refine (base_any k (by omega) _).mono ?_
  rintro e w' ⟨rfl, hb⟩
  have Bz := box_step Bz (unhide HZ) hb
  have a0 : w'.cell? ⟨w.heap.size, 0, none⟩ = some (.int .i64 (k : Int)) := unhide HCL w' Bz 0 _ rfl
  have A0 : ∀ o, (w'.alloc o).cell? ⟨w.heap.size, 0, none⟩ = some (.int .i64 (k : Int)) := fun o => alloc_cell a0 o
  have a1 : w'.cell? ⟨w.heap.size, 1, none⟩ = some (.int .i64 sm) := unhide HCL w' Bz 1 _ rfl
  have A1 : ∀ o, (w'.alloc o).cell? ⟨w.heap.size, 1, none⟩ = some (.int .i64 sm) := fun o => alloc_cell a1 o
  have a2 : w'.cell? ⟨w.heap.size, 2, none⟩ = some (.int .i64 sr) := unhide HCL w' Bz 2 _ rfl
  have A2 : ∀ o, (w'.alloc o).cell? ⟨w.heap.size, 2, none⟩ = some (.int .i64 sr) := fun o => alloc_cell a2 o
  have a3 : w'.cell? ⟨w.heap.size, 3, none⟩ = some (.int .i64 sx) := unhide HCL w' Bz 3 _ rfl
  have A3 : ∀ o, (w'.alloc o).cell? ⟨w.heap.size, 3, none⟩ = some (.int .i64 sx) := fun o => alloc_cell a3 o
  have a4 : w'.cell? ⟨w.heap.size, 4, none⟩ = some (.int .i64 dm) := unhide HCL w' Bz 4 _ rfl
  have A4 : ∀ o, (w'.alloc o).cell? ⟨w.heap.size, 4, none⟩ = some (.int .i64 dm) := fun o => alloc_cell a4 o
  have a5 : w'.cell? ⟨w.heap.size, 5, none⟩ = some (.int .i64 dr) := unhide HCL w' Bz 5 _ rfl
  have A5 : ∀ o, (w'.alloc o).cell? ⟨w.heap.size, 5, none⟩ = some (.int .i64 dr) := fun o => alloc_cell a5 o
  have a6 : w'.cell? ⟨w.heap.size, 6, none⟩ = some (.int .i64 dx) := unhide HCL w' Bz 6 _ rfl
  have A6 : ∀ o, (w'.alloc o).cell? ⟨w.heap.size, 6, none⟩ = some (.int .i64 dx) := fun o => alloc_cell a6 o
  have a7 : w'.cell? ⟨w.heap.size, 7, none⟩ = some (.int .i64 n) := unhide HCL w' Bz 7 _ rfl
  have A7 : ∀ o, (w'.alloc o).cell? ⟨w.heap.size, 7, none⟩ = some (.int .i64 n) := fun o => alloc_cell a7 o
  clear hb
  rw [hbk]
  go_wp2
  go_region_with (go_at_call 97; refine (six_any ⟨_, _, _⟩ (by simp only; omega) _).mono ?_; rintro e w' ⟨rfl, hb⟩; (first | have Bz := box_step Bz (unhide HZ) hb | have Bz := box_stepd Bz (unhide HZ) hb); have a0 : w'.cell? ⟨w.heap.size, 0, none⟩ = some (.int .i64 (k : Int)) := unhide HCL w' Bz 0 _ rfl; have A0 : ∀ o, (w'.alloc o).cell? ⟨w.heap.size, 0, none⟩ = some (.int .i64 (k : Int)) := fun o => alloc_cell a0 o; have a1 : w'.cell? ⟨w.heap.size, 1, none⟩ = some (.int .i64 sm) := unhide HCL w' Bz 1 _ rfl; have A1 : ∀ o, (w'.alloc o).cell? ⟨w.heap.size, 1, none⟩ = some (.int .i64 sm) := fun o => alloc_cell a1 o; have a2 : w'.cell? ⟨w.heap.size, 2, none⟩ = some (.int .i64 sr) := unhide HCL w' Bz 2 _ rfl; have A2 : ∀ o, (w'.alloc o).cell? ⟨w.heap.size, 2, none⟩ = some (.int .i64 sr) := fun o => alloc_cell a2 o; have a3 : w'.cell? ⟨w.heap.size, 3, none⟩ = some (.int .i64 sx) := unhide HCL w' Bz 3 _ rfl; have A3 : ∀ o, (w'.alloc o).cell? ⟨w.heap.size, 3, none⟩ = some (.int .i64 sx) := fun o => alloc_cell a3 o; have a4 : w'.cell? ⟨w.heap.size, 4, none⟩ = some (.int .i64 dm) := unhide HCL w' Bz 4 _ rfl; have A4 : ∀ o, (w'.alloc o).cell? ⟨w.heap.size, 4, none⟩ = some (.int .i64 dm) := fun o => alloc_cell a4 o; have a5 : w'.cell? ⟨w.heap.size, 5, none⟩ = some (.int .i64 dr) := unhide HCL w' Bz 5 _ rfl; have A5 : ∀ o, (w'.alloc o).cell? ⟨w.heap.size, 5, none⟩ = some (.int .i64 dr) := fun o => alloc_cell a5 o; have a6 : w'.cell? ⟨w.heap.size, 6, none⟩ = some (.int .i64 dx) := unhide HCL w' Bz 6 _ rfl; have A6 : ∀ o, (w'.alloc o).cell? ⟨w.heap.size, 6, none⟩ = some (.int .i64 dx) := fun o => alloc_cell a6 o; have a7 : w'.cell? ⟨w.heap.size, 7, none⟩ = some (.int .i64 n) := unhide HCL w' Bz 7 _ rfl; have A7 : ∀ o, (w'.alloc o).cell? ⟨w.heap.size, 7, none⟩ = some (.int .i64 n) := fun o => alloc_cell a7 o; clear hb)
  all_goals
    have hsz := Bz.size
    rw [unhide HZ] at hsz
    have OO := hide ((own_one w' (b + n * 64 + q)).base (show w.heap.size + 1 ≤ w'.heap.size by omega))
    have HN : (Value.slice (some ⟨w'.heap.size, 0, none⟩) 1 1) ≠ .slice none 0 0 := by simp
    have B0 := box_step Bz (unhide HZ) ((Below.refl w'.heap.size w').alloc (Nat.le_refl _) (Obj.cells #[.int .i64 (b + n * 64 + q)] 3))
    go_wp2_with fail
    refine (hasX_any ⟨dm, dr, dx⟩ _).mono ?_
    rintro e w7 ⟨rfl, hb⟩
    have Bz := box_step B0 (unhide HZ) hb
    have a0 : w7.cell? ⟨w.heap.size, 0, none⟩ = some (.int .i64 (k : Int)) := unhide HCL w7 Bz 0 _ rfl
    have A0 : ∀ o, (w7.alloc o).cell? ⟨w.heap.size, 0, none⟩ = some (.int .i64 (k : Int)) := fun o => alloc_cell a0 o
    have a1 : w7.cell? ⟨w.heap.size, 1, none⟩ = some (.int .i64 sm) := unhide HCL w7 Bz 1 _ rfl
    have A1 : ∀ o, (w7.alloc o).cell? ⟨w.heap.size, 1, none⟩ = some (.int .i64 sm) := fun o => alloc_cell a1 o
    have a2 : w7.cell? ⟨w.heap.size, 2, none⟩ = some (.int .i64 sr) := unhide HCL w7 Bz 2 _ rfl
    have A2 : ∀ o, (w7.alloc o).cell? ⟨w.heap.size, 2, none⟩ = some (.int .i64 sr) := fun o => alloc_cell a2 o
    have a3 : w7.cell? ⟨w.heap.size, 3, none⟩ = some (.int .i64 sx) := unhide HCL w7 Bz 3 _ rfl
    have A3 : ∀ o, (w7.alloc o).cell? ⟨w.heap.size, 3, none⟩ = some (.int .i64 sx) := fun o => alloc_cell a3 o
    have a4 : w7.cell? ⟨w.heap.size, 4, none⟩ = some (.int .i64 dm) := unhide HCL w7 Bz 4 _ rfl
    have A4 : ∀ o, (w7.alloc o).cell? ⟨w.heap.size, 4, none⟩ = some (.int .i64 dm) := fun o => alloc_cell a4 o
    have a5 : w7.cell? ⟨w.heap.size, 5, none⟩ = some (.int .i64 dr) := unhide HCL w7 Bz 5 _ rfl
    have A5 : ∀ o, (w7.alloc o).cell? ⟨w.heap.size, 5, none⟩ = some (.int .i64 dr) := fun o => alloc_cell a5 o
    have a6 : w7.cell? ⟨w.heap.size, 6, none⟩ = some (.int .i64 dx) := unhide HCL w7 Bz 6 _ rfl
    have A6 : ∀ o, (w7.alloc o).cell? ⟨w.heap.size, 6, none⟩ = some (.int .i64 dx) := fun o => alloc_cell a6 o
    have a7 : w7.cell? ⟨w.heap.size, 7, none⟩ = some (.int .i64 n) := unhide HCL w7 Bz 7 _ rfl
    have A7 : ∀ o, (w7.alloc o).cell? ⟨w.heap.size, 7, none⟩ = some (.int .i64 n) := fun o => alloc_cell a7 o
    have OO := hide ((unhide OO).later hb)
    clear hb B0
    rw [hdX]
    cases dX
    · go_wp2
      go_ret
      exact ⟨(.slice (some ⟨w'.heap.size, 0, none⟩) 1 1), rfl, HN, by rw [unhide HCo, unhide HXs]; exact (unhide OO).base (by omega), unhide HB _ Bz⟩
    · have K1 := hide (cell_one_new w7 (Value.int .i64 (dx)) 3)
      have szc := Bz.size
      rw [unhide HZ] at szc
      go_wp2_with (at_builtin; go_must (refine wpList_append_own _ rfl (.tmp 94) (.tmp 98) 24 rfl (w.heap.size + 1) 3 i0 (.int .i64 0) 1 8 Try.underlying24 hi hz0 hz1 hz2 rfl (by decide) (.slice (some ⟨w'.heap.size, 0, none⟩) 1 1) 1 (cellsN [b + n * 64 + q]) rfl ((unhide OO).alloc _) ⟨w7.heap.size, 0, none⟩ 1 1 (cellsN [dx]) rfl rfl (unhide K1) (cellsN_one _) (by unfold maxLen; omega) (by omega) (by simp; omega) ?_; intro v8 w8 hown hgrow hnil; have Bz := box_app Bz (unhide HZ) _ hgrow (unhide OO) (Nat.le_refl _); have a0 : w8.cell? ⟨w.heap.size, 0, none⟩ = some (.int .i64 (k : Int)) := unhide HCL w8 Bz 0 _ rfl; have A0 : ∀ o, (w8.alloc o).cell? ⟨w.heap.size, 0, none⟩ = some (.int .i64 (k : Int)) := fun o => alloc_cell a0 o; have a1 : w8.cell? ⟨w.heap.size, 1, none⟩ = some (.int .i64 sm) := unhide HCL w8 Bz 1 _ rfl; have A1 : ∀ o, (w8.alloc o).cell? ⟨w.heap.size, 1, none⟩ = some (.int .i64 sm) := fun o => alloc_cell a1 o; have a2 : w8.cell? ⟨w.heap.size, 2, none⟩ = some (.int .i64 sr) := unhide HCL w8 Bz 2 _ rfl; have A2 : ∀ o, (w8.alloc o).cell? ⟨w.heap.size, 2, none⟩ = some (.int .i64 sr) := fun o => alloc_cell a2 o; have a3 : w8.cell? ⟨w.heap.size, 3, none⟩ = some (.int .i64 sx) := unhide HCL w8 Bz 3 _ rfl; have A3 : ∀ o, (w8.alloc o).cell? ⟨w.heap.size, 3, none⟩ = some (.int .i64 sx) := fun o => alloc_cell a3 o; have a4 : w8.cell? ⟨w.heap.size, 4, none⟩ = some (.int .i64 dm) := unhide HCL w8 Bz 4 _ rfl; have A4 : ∀ o, (w8.alloc o).cell? ⟨w.heap.size, 4, none⟩ = some (.int .i64 dm) := fun o => alloc_cell a4 o; have a5 : w8.cell? ⟨w.heap.size, 5, none⟩ = some (.int .i64 dr) := unhide HCL w8 Bz 5 _ rfl; have A5 : ∀ o, (w8.alloc o).cell? ⟨w.heap.size, 5, none⟩ = some (.int .i64 dr) := fun o => alloc_cell a5 o; have a6 : w8.cell? ⟨w.heap.size, 6, none⟩ = some (.int .i64 dx) := unhide HCL w8 Bz 6 _ rfl; have A6 : ∀ o, (w8.alloc o).cell? ⟨w.heap.size, 6, none⟩ = some (.int .i64 dx) := fun o => alloc_cell a6 o; have a7 : w8.cell? ⟨w.heap.size, 7, none⟩ = some (.int .i64 n) := unhide HCL w8 Bz 7 _ rfl; have A7 : ∀ o, (w8.alloc o).cell? ⟨w.heap.size, 7, none⟩ = some (.int .i64 n) := fun o => alloc_cell a7 o))
      have HN : v8 ≠ .slice none 0 0 := fun e => by have := hnil.1 e; omega
      have OO := hide (show OwnN w8 (w.heap.size + 1) v8 [b + n * 64 + q, dx] from hown)
      clear hown hgrow hnil K1
      go_wp2
      go_ret
      exact ⟨v8, rfl, HN, by rw [unhide HCo, unhide HXs]; exact (unhide OO).base (by omega), unhide HB _ Bz⟩

end Go.Proofs.Ytfkmibgamkignaa

namespace Go.Proofs.Ytfkmibgamkignaa
open Go.ChangeShapes Go.WideShapes Go.ChangeAt Go.RowKit
set_option linter.unusedVariables false
set_option maxRecDepth 8000

set_option maxHeartbeats 4000000 in
theorem encS_D (k : Nat) (sm sr sx dm dr dx n : Int) (w : World) (hok : Is.ok ⟨(k : Int), ⟨sm, sr, sx⟩, ⟨dm, dr, dx⟩, n⟩ = true) (h1 : (k : Int) = 16) :
    Calls Try.prog 79 #[.agg #[.int .i64 (k : Int), .int .i64 sm, .int .i64 sr, .int .i64 sx, .int .i64 dm, .int .i64 dr, .int .i64 dx, .int .i64 n]] w fun e w' => ∃ v, e = .returned v ∧ v ≠ .slice none 0 0 ∧ OwnN w' w.heap.size v (Is.code ⟨(k : Int), ⟨sm, sr, sx⟩, ⟨dm, dr, dx⟩, n⟩ :: Is.xs ⟨(k : Int), ⟨sm, sr, sx⟩, ⟨dm, dr, dx⟩, n⟩) ∧ Below w.heap.size w w' := by
  obtain ⟨i0, hi, hz0, hz1, hz2⟩ := info_parts info3
  have HZ := hide (show (w.alloc (Obj.cells #[.int .i64 (k : Int), .int .i64 sm, .int .i64 sr, .int .i64 sx, .int .i64 dm, .int .i64 dr, .int .i64 dx, .int .i64 n] 92)).heap.size = w.heap.size + 1 by simp)
  have HCL := hide (box_cells w #[.int .i64 (k : Int), .int .i64 sm, .int .i64 sr, .int .i64 sx, .int .i64 dm, .int .i64 dr, .int .i64 dx, .int .i64 n] 92)
  have HB := hide (box_below w (Obj.cells #[.int .i64 (k : Int), .int .i64 sm, .int .i64 sr, .int .i64 sx, .int .i64 dm, .int .i64 dr, .int .i64 dx, .int .i64 n] 92))
  have Bz : Below (w.heap.size + 1) (w.alloc (Obj.cells #[.int .i64 (k : Int), .int .i64 sm, .int .i64 sr, .int .i64 sx, .int .i64 dm, .int .i64 dr, .int .i64 dx, .int .i64 n] 92)) (w.alloc (Obj.cells #[.int .i64 (k : Int), .int .i64 sm, .int .i64 sr, .int .i64 sx, .int .i64 dm, .int .i64 dr, .int .i64 dx, .int .i64 n] 92)) := Below.refl _ _
  obtain ⟨⟨q1, q2⟩, q3, q4, q5, q6, q7, q8, q9, q10, q11⟩ := is_ok hok
  simp only at q1 q2 q3 q4 q5 q6 q7 q8 q9 q10 q11
  have hbb := base_bd ⟨k, by omega⟩
  simp only at hbb
  obtain ⟨b, hbk⟩ : ∃ b, baseAt k = b := ⟨_, rfl⟩
  rw [hbk] at hbb
  obtain ⟨p, hp6⟩ : ∃ p, Od.six ⟨sm, sr, sx⟩ = p := ⟨_, rfl⟩
  obtain ⟨q, hq6⟩ : ∃ q, Od.six ⟨dm, dr, dx⟩ = q := ⟨_, rfl⟩
  obtain ⟨sX, hsX⟩ : ∃ q, Od.hasX ⟨sm, sr, sx⟩ = q := ⟨_, rfl⟩
  obtain ⟨dX, hdX⟩ : ∃ q, Od.hasX ⟨dm, dr, dx⟩ = q := ⟨_, rfl⟩
  have hnb : 0 ≤ n ∧ n ≤ 255 := by have := q9 (by omega); omega
  have HCo := hide (show Is.code ⟨(k : Int), ⟨sm, sr, sx⟩, ⟨dm, dr, dx⟩, n⟩ = b + n by unfold Is.code; simp only [Int.toNat_natCast, hp6, hq6, hbk]; rw [if_neg (by omega)]; rw [if_neg (by omega)]; rw [if_neg (by omega)]; rw [if_pos (by omega)])
  have HXs := hide (show Is.xs ⟨(k : Int), ⟨sm, sr, sx⟩, ⟨dm, dr, dx⟩, n⟩ = ([] : List Int) by unfold Is.xs; simp only; rw [if_neg (by omega), if_neg (by omega)]; rfl)
  have nd6 : decide ((k : Int) ≤ 6) = false := by simp; omega
  have nd14 : decide ((k : Int) ≤ 14) = false := by simp; omega
  have nd15 : decide ((k : Int) ≤ 15) = false := by simp; omega
  have ne15 : ((k : Int) == 15) = false := beq_eq_false_iff_ne.2 (by omega)
  have h16 : ((k : Int) == 16) = true := by simp; omega
  clear h1
  clear q3 q4 q5 q6 q8 q9 q10 q11
  go_enter Try.func79, Try.ntmps79
  go_wp2_with fail
  refine (insOk_any ⟨(k : Int), ⟨sm, sr, sx⟩, ⟨dm, dr, dx⟩, n⟩ _).mono ?_
  rintro e w' ⟨rfl, hb⟩
  have Bz := box_step Bz (unhide HZ) hb
  have a0 : w'.cell? ⟨w.heap.size, 0, none⟩ = some (.int .i64 (k : Int)) := unhide HCL w' Bz 0 _ rfl
  have A0 : ∀ o, (w'.alloc o).cell? ⟨w.heap.size, 0, none⟩ = some (.int .i64 (k : Int)) := fun o => alloc_cell a0 o
  have a1 : w'.cell? ⟨w.heap.size, 1, none⟩ = some (.int .i64 sm) := unhide HCL w' Bz 1 _ rfl
  have A1 : ∀ o, (w'.alloc o).cell? ⟨w.heap.size, 1, none⟩ = some (.int .i64 sm) := fun o => alloc_cell a1 o
  have a2 : w'.cell? ⟨w.heap.size, 2, none⟩ = some (.int .i64 sr) := unhide HCL w' Bz 2 _ rfl
  have A2 : ∀ o, (w'.alloc o).cell? ⟨w.heap.size, 2, none⟩ = some (.int .i64 sr) := fun o => alloc_cell a2 o
  have a3 : w'.cell? ⟨w.heap.size, 3, none⟩ = some (.int .i64 sx) := unhide HCL w' Bz 3 _ rfl
  have A3 : ∀ o, (w'.alloc o).cell? ⟨w.heap.size, 3, none⟩ = some (.int .i64 sx) := fun o => alloc_cell a3 o
  have a4 : w'.cell? ⟨w.heap.size, 4, none⟩ = some (.int .i64 dm) := unhide HCL w' Bz 4 _ rfl
  have A4 : ∀ o, (w'.alloc o).cell? ⟨w.heap.size, 4, none⟩ = some (.int .i64 dm) := fun o => alloc_cell a4 o
  have a5 : w'.cell? ⟨w.heap.size, 5, none⟩ = some (.int .i64 dr) := unhide HCL w' Bz 5 _ rfl
  have A5 : ∀ o, (w'.alloc o).cell? ⟨w.heap.size, 5, none⟩ = some (.int .i64 dr) := fun o => alloc_cell a5 o
  have a6 : w'.cell? ⟨w.heap.size, 6, none⟩ = some (.int .i64 dx) := unhide HCL w' Bz 6 _ rfl
  have A6 : ∀ o, (w'.alloc o).cell? ⟨w.heap.size, 6, none⟩ = some (.int .i64 dx) := fun o => alloc_cell a6 o
  have a7 : w'.cell? ⟨w.heap.size, 7, none⟩ = some (.int .i64 n) := unhide HCL w' Bz 7 _ rfl
  have A7 : ∀ o, (w'.alloc o).cell? ⟨w.heap.size, 7, none⟩ = some (.int .i64 n) := fun o => alloc_cell a7 o
  clear hb
  rw [hok]
  go_wp2_with fail
  refine (base_any k (by omega) _).mono ?_
  rintro e w' ⟨rfl, hb⟩
  have Bz := box_step Bz (unhide HZ) hb
  have a0 : w'.cell? ⟨w.heap.size, 0, none⟩ = some (.int .i64 (k : Int)) := unhide HCL w' Bz 0 _ rfl
  have A0 : ∀ o, (w'.alloc o).cell? ⟨w.heap.size, 0, none⟩ = some (.int .i64 (k : Int)) := fun o => alloc_cell a0 o
  have a1 : w'.cell? ⟨w.heap.size, 1, none⟩ = some (.int .i64 sm) := unhide HCL w' Bz 1 _ rfl
  have A1 : ∀ o, (w'.alloc o).cell? ⟨w.heap.size, 1, none⟩ = some (.int .i64 sm) := fun o => alloc_cell a1 o
  have a2 : w'.cell? ⟨w.heap.size, 2, none⟩ = some (.int .i64 sr) := unhide HCL w' Bz 2 _ rfl
  have A2 : ∀ o, (w'.alloc o).cell? ⟨w.heap.size, 2, none⟩ = some (.int .i64 sr) := fun o => alloc_cell a2 o
  have a3 : w'.cell? ⟨w.heap.size, 3, none⟩ = some (.int .i64 sx) := unhide HCL w' Bz 3 _ rfl
  have A3 : ∀ o, (w'.alloc o).cell? ⟨w.heap.size, 3, none⟩ = some (.int .i64 sx) := fun o => alloc_cell a3 o
  have a4 : w'.cell? ⟨w.heap.size, 4, none⟩ = some (.int .i64 dm) := unhide HCL w' Bz 4 _ rfl
  have A4 : ∀ o, (w'.alloc o).cell? ⟨w.heap.size, 4, none⟩ = some (.int .i64 dm) := fun o => alloc_cell a4 o
  have a5 : w'.cell? ⟨w.heap.size, 5, none⟩ = some (.int .i64 dr) := unhide HCL w' Bz 5 _ rfl
  have A5 : ∀ o, (w'.alloc o).cell? ⟨w.heap.size, 5, none⟩ = some (.int .i64 dr) := fun o => alloc_cell a5 o
  have a6 : w'.cell? ⟨w.heap.size, 6, none⟩ = some (.int .i64 dx) := unhide HCL w' Bz 6 _ rfl
  have A6 : ∀ o, (w'.alloc o).cell? ⟨w.heap.size, 6, none⟩ = some (.int .i64 dx) := fun o => alloc_cell a6 o
  have a7 : w'.cell? ⟨w.heap.size, 7, none⟩ = some (.int .i64 n) := unhide HCL w' Bz 7 _ rfl
  have A7 : ∀ o, (w'.alloc o).cell? ⟨w.heap.size, 7, none⟩ = some (.int .i64 n) := fun o => alloc_cell a7 o
  clear hb
  rw [hbk]
  have hsz := Bz.size
  rw [unhide HZ] at hsz
  have OO := hide ((own_one w' (b + n)).base (show w.heap.size + 1 ≤ w'.heap.size by omega))
  have HN : (Value.slice (some ⟨w'.heap.size, 0, none⟩) 1 1) ≠ .slice none 0 0 := by simp
  have B0 := box_step Bz (unhide HZ) ((Below.refl w'.heap.size w').alloc (Nat.le_refl _) (Obj.cells #[.int .i64 (b + n)] 3))
  have Bz := B0
  go_wp2
  go_ret
  exact ⟨(.slice (some ⟨w'.heap.size, 0, none⟩) 1 1), rfl, HN, by rw [unhide HCo, unhide HXs]; exact (unhide OO).base (by omega), unhide HB _ Bz⟩

set_option maxHeartbeats 4000000 in
theorem encS_D2 (k : Nat) (sm sr sx dm dr dx n : Int) (w : World) (hok : Is.ok ⟨(k : Int), ⟨sm, sr, sx⟩, ⟨dm, dr, dx⟩, n⟩ = true) (h1 : (k : Int) = 23) :
    Calls Try.prog 79 #[.agg #[.int .i64 (k : Int), .int .i64 sm, .int .i64 sr, .int .i64 sx, .int .i64 dm, .int .i64 dr, .int .i64 dx, .int .i64 n]] w fun e w' => ∃ v, e = .returned v ∧ v ≠ .slice none 0 0 ∧ OwnN w' w.heap.size v (Is.code ⟨(k : Int), ⟨sm, sr, sx⟩, ⟨dm, dr, dx⟩, n⟩ :: Is.xs ⟨(k : Int), ⟨sm, sr, sx⟩, ⟨dm, dr, dx⟩, n⟩) ∧ Below w.heap.size w w' := by
  obtain ⟨i0, hi, hz0, hz1, hz2⟩ := info_parts info3
  have HZ := hide (show (w.alloc (Obj.cells #[.int .i64 (k : Int), .int .i64 sm, .int .i64 sr, .int .i64 sx, .int .i64 dm, .int .i64 dr, .int .i64 dx, .int .i64 n] 92)).heap.size = w.heap.size + 1 by simp)
  have HCL := hide (box_cells w #[.int .i64 (k : Int), .int .i64 sm, .int .i64 sr, .int .i64 sx, .int .i64 dm, .int .i64 dr, .int .i64 dx, .int .i64 n] 92)
  have HB := hide (box_below w (Obj.cells #[.int .i64 (k : Int), .int .i64 sm, .int .i64 sr, .int .i64 sx, .int .i64 dm, .int .i64 dr, .int .i64 dx, .int .i64 n] 92))
  have Bz : Below (w.heap.size + 1) (w.alloc (Obj.cells #[.int .i64 (k : Int), .int .i64 sm, .int .i64 sr, .int .i64 sx, .int .i64 dm, .int .i64 dr, .int .i64 dx, .int .i64 n] 92)) (w.alloc (Obj.cells #[.int .i64 (k : Int), .int .i64 sm, .int .i64 sr, .int .i64 sx, .int .i64 dm, .int .i64 dr, .int .i64 dx, .int .i64 n] 92)) := Below.refl _ _
  obtain ⟨⟨q1, q2⟩, q3, q4, q5, q6, q7, q8, q9, q10, q11⟩ := is_ok hok
  simp only at q1 q2 q3 q4 q5 q6 q7 q8 q9 q10 q11
  have hbb := base_bd ⟨k, by omega⟩
  simp only at hbb
  obtain ⟨b, hbk⟩ : ∃ b, baseAt k = b := ⟨_, rfl⟩
  rw [hbk] at hbb
  obtain ⟨p, hp6⟩ : ∃ p, Od.six ⟨sm, sr, sx⟩ = p := ⟨_, rfl⟩
  obtain ⟨q, hq6⟩ : ∃ q, Od.six ⟨dm, dr, dx⟩ = q := ⟨_, rfl⟩
  obtain ⟨sX, hsX⟩ : ∃ q, Od.hasX ⟨sm, sr, sx⟩ = q := ⟨_, rfl⟩
  obtain ⟨dX, hdX⟩ : ∃ q, Od.hasX ⟨dm, dr, dx⟩ = q := ⟨_, rfl⟩
  have hnb : 0 ≤ n ∧ n ≤ 255 := by have := q11 (by omega); omega
  have HCo := hide (show Is.code ⟨(k : Int), ⟨sm, sr, sx⟩, ⟨dm, dr, dx⟩, n⟩ = b + n by unfold Is.code; simp only [Int.toNat_natCast, hp6, hq6, hbk]; rw [if_neg (by omega)]; rw [if_neg (by omega)]; rw [if_neg (by omega)]; rw [if_pos (by omega)])
  have HXs := hide (show Is.xs ⟨(k : Int), ⟨sm, sr, sx⟩, ⟨dm, dr, dx⟩, n⟩ = ([] : List Int) by unfold Is.xs; simp only; rw [if_neg (by omega), if_neg (by omega)]; rfl)
  have nd6 : decide ((k : Int) ≤ 6) = false := by simp; omega
  have nd14 : decide ((k : Int) ≤ 14) = false := by simp; omega
  have nd15 : decide ((k : Int) ≤ 15) = false := by simp; omega
  have ne15 : ((k : Int) == 15) = false := beq_eq_false_iff_ne.2 (by omega)
  have h16 : ((k : Int) == 16) = false := beq_eq_false_iff_ne.2 (by omega)
  have h23 : ((k : Int) == 23) = true := by simp; omega
  clear h1
  clear q3 q4 q5 q6 q8 q9 q10 q11
  go_enter Try.func79, Try.ntmps79
  go_wp2_with fail
  refine (insOk_any ⟨(k : Int), ⟨sm, sr, sx⟩, ⟨dm, dr, dx⟩, n⟩ _).mono ?_
  rintro e w' ⟨rfl, hb⟩
  have Bz := box_step Bz (unhide HZ) hb
  have a0 : w'.cell? ⟨w.heap.size, 0, none⟩ = some (.int .i64 (k : Int)) := unhide HCL w' Bz 0 _ rfl
  have A0 : ∀ o, (w'.alloc o).cell? ⟨w.heap.size, 0, none⟩ = some (.int .i64 (k : Int)) := fun o => alloc_cell a0 o
  have a1 : w'.cell? ⟨w.heap.size, 1, none⟩ = some (.int .i64 sm) := unhide HCL w' Bz 1 _ rfl
  have A1 : ∀ o, (w'.alloc o).cell? ⟨w.heap.size, 1, none⟩ = some (.int .i64 sm) := fun o => alloc_cell a1 o
  have a2 : w'.cell? ⟨w.heap.size, 2, none⟩ = some (.int .i64 sr) := unhide HCL w' Bz 2 _ rfl
  have A2 : ∀ o, (w'.alloc o).cell? ⟨w.heap.size, 2, none⟩ = some (.int .i64 sr) := fun o => alloc_cell a2 o
  have a3 : w'.cell? ⟨w.heap.size, 3, none⟩ = some (.int .i64 sx) := unhide HCL w' Bz 3 _ rfl
  have A3 : ∀ o, (w'.alloc o).cell? ⟨w.heap.size, 3, none⟩ = some (.int .i64 sx) := fun o => alloc_cell a3 o
  have a4 : w'.cell? ⟨w.heap.size, 4, none⟩ = some (.int .i64 dm) := unhide HCL w' Bz 4 _ rfl
  have A4 : ∀ o, (w'.alloc o).cell? ⟨w.heap.size, 4, none⟩ = some (.int .i64 dm) := fun o => alloc_cell a4 o
  have a5 : w'.cell? ⟨w.heap.size, 5, none⟩ = some (.int .i64 dr) := unhide HCL w' Bz 5 _ rfl
  have A5 : ∀ o, (w'.alloc o).cell? ⟨w.heap.size, 5, none⟩ = some (.int .i64 dr) := fun o => alloc_cell a5 o
  have a6 : w'.cell? ⟨w.heap.size, 6, none⟩ = some (.int .i64 dx) := unhide HCL w' Bz 6 _ rfl
  have A6 : ∀ o, (w'.alloc o).cell? ⟨w.heap.size, 6, none⟩ = some (.int .i64 dx) := fun o => alloc_cell a6 o
  have a7 : w'.cell? ⟨w.heap.size, 7, none⟩ = some (.int .i64 n) := unhide HCL w' Bz 7 _ rfl
  have A7 : ∀ o, (w'.alloc o).cell? ⟨w.heap.size, 7, none⟩ = some (.int .i64 n) := fun o => alloc_cell a7 o
  clear hb
  rw [hok]
  go_wp2_with fail
  refine (base_any k (by omega) _).mono ?_
  rintro e w' ⟨rfl, hb⟩
  have Bz := box_step Bz (unhide HZ) hb
  have a0 : w'.cell? ⟨w.heap.size, 0, none⟩ = some (.int .i64 (k : Int)) := unhide HCL w' Bz 0 _ rfl
  have A0 : ∀ o, (w'.alloc o).cell? ⟨w.heap.size, 0, none⟩ = some (.int .i64 (k : Int)) := fun o => alloc_cell a0 o
  have a1 : w'.cell? ⟨w.heap.size, 1, none⟩ = some (.int .i64 sm) := unhide HCL w' Bz 1 _ rfl
  have A1 : ∀ o, (w'.alloc o).cell? ⟨w.heap.size, 1, none⟩ = some (.int .i64 sm) := fun o => alloc_cell a1 o
  have a2 : w'.cell? ⟨w.heap.size, 2, none⟩ = some (.int .i64 sr) := unhide HCL w' Bz 2 _ rfl
  have A2 : ∀ o, (w'.alloc o).cell? ⟨w.heap.size, 2, none⟩ = some (.int .i64 sr) := fun o => alloc_cell a2 o
  have a3 : w'.cell? ⟨w.heap.size, 3, none⟩ = some (.int .i64 sx) := unhide HCL w' Bz 3 _ rfl
  have A3 : ∀ o, (w'.alloc o).cell? ⟨w.heap.size, 3, none⟩ = some (.int .i64 sx) := fun o => alloc_cell a3 o
  have a4 : w'.cell? ⟨w.heap.size, 4, none⟩ = some (.int .i64 dm) := unhide HCL w' Bz 4 _ rfl
  have A4 : ∀ o, (w'.alloc o).cell? ⟨w.heap.size, 4, none⟩ = some (.int .i64 dm) := fun o => alloc_cell a4 o
  have a5 : w'.cell? ⟨w.heap.size, 5, none⟩ = some (.int .i64 dr) := unhide HCL w' Bz 5 _ rfl
  have A5 : ∀ o, (w'.alloc o).cell? ⟨w.heap.size, 5, none⟩ = some (.int .i64 dr) := fun o => alloc_cell a5 o
  have a6 : w'.cell? ⟨w.heap.size, 6, none⟩ = some (.int .i64 dx) := unhide HCL w' Bz 6 _ rfl
  have A6 : ∀ o, (w'.alloc o).cell? ⟨w.heap.size, 6, none⟩ = some (.int .i64 dx) := fun o => alloc_cell a6 o
  have a7 : w'.cell? ⟨w.heap.size, 7, none⟩ = some (.int .i64 n) := unhide HCL w' Bz 7 _ rfl
  have A7 : ∀ o, (w'.alloc o).cell? ⟨w.heap.size, 7, none⟩ = some (.int .i64 n) := fun o => alloc_cell a7 o
  clear hb
  rw [hbk]
  have hsz := Bz.size
  rw [unhide HZ] at hsz
  have OO := hide ((own_one w' (b + n)).base (show w.heap.size + 1 ≤ w'.heap.size by omega))
  have HN : (Value.slice (some ⟨w'.heap.size, 0, none⟩) 1 1) ≠ .slice none 0 0 := by simp
  have B0 := box_step Bz (unhide HZ) ((Below.refl w'.heap.size w').alloc (Nat.le_refl _) (Obj.cells #[.int .i64 (b + n)] 3))
  have Bz := B0
  go_wp2
  go_ret
  exact ⟨(.slice (some ⟨w'.heap.size, 0, none⟩) 1 1), rfl, HN, by rw [unhide HCo, unhide HXs]; exact (unhide OO).base (by omega), unhide HB _ Bz⟩

set_option maxHeartbeats 4000000 in
theorem encS_E (k : Nat) (sm sr sx dm dr dx n : Int) (w : World) (hok : Is.ok ⟨(k : Int), ⟨sm, sr, sx⟩, ⟨dm, dr, dx⟩, n⟩ = true) (h1 : 16 < (k : Int)) (h2 : (k : Int) ≤ 21) :
    Calls Try.prog 79 #[.agg #[.int .i64 (k : Int), .int .i64 sm, .int .i64 sr, .int .i64 sx, .int .i64 dm, .int .i64 dr, .int .i64 dx, .int .i64 n]] w fun e w' => ∃ v, e = .returned v ∧ v ≠ .slice none 0 0 ∧ OwnN w' w.heap.size v (Is.code ⟨(k : Int), ⟨sm, sr, sx⟩, ⟨dm, dr, dx⟩, n⟩ :: Is.xs ⟨(k : Int), ⟨sm, sr, sx⟩, ⟨dm, dr, dx⟩, n⟩) ∧ Below w.heap.size w w' := by
  obtain ⟨i0, hi, hz0, hz1, hz2⟩ := info_parts info3
  have HZ := hide (show (w.alloc (Obj.cells #[.int .i64 (k : Int), .int .i64 sm, .int .i64 sr, .int .i64 sx, .int .i64 dm, .int .i64 dr, .int .i64 dx, .int .i64 n] 92)).heap.size = w.heap.size + 1 by simp)
  have HCL := hide (box_cells w #[.int .i64 (k : Int), .int .i64 sm, .int .i64 sr, .int .i64 sx, .int .i64 dm, .int .i64 dr, .int .i64 dx, .int .i64 n] 92)
  have HB := hide (box_below w (Obj.cells #[.int .i64 (k : Int), .int .i64 sm, .int .i64 sr, .int .i64 sx, .int .i64 dm, .int .i64 dr, .int .i64 dx, .int .i64 n] 92))
  have Bz : Below (w.heap.size + 1) (w.alloc (Obj.cells #[.int .i64 (k : Int), .int .i64 sm, .int .i64 sr, .int .i64 sx, .int .i64 dm, .int .i64 dr, .int .i64 dx, .int .i64 n] 92)) (w.alloc (Obj.cells #[.int .i64 (k : Int), .int .i64 sm, .int .i64 sr, .int .i64 sx, .int .i64 dm, .int .i64 dr, .int .i64 dx, .int .i64 n] 92)) := Below.refl _ _
  obtain ⟨⟨q1, q2⟩, q3, q4, q5, q6, q7, q8, q9, q10, q11⟩ := is_ok hok
  simp only at q1 q2 q3 q4 q5 q6 q7 q8 q9 q10 q11
  have hbb := base_bd ⟨k, by omega⟩
  simp only at hbb
  obtain ⟨b, hbk⟩ : ∃ b, baseAt k = b := ⟨_, rfl⟩
  rw [hbk] at hbb
  obtain ⟨p, hp6⟩ : ∃ p, Od.six ⟨sm, sr, sx⟩ = p := ⟨_, rfl⟩
  obtain ⟨q, hq6⟩ : ∃ q, Od.six ⟨dm, dr, dx⟩ = q := ⟨_, rfl⟩
  obtain ⟨sX, hsX⟩ : ∃ q, Od.hasX ⟨sm, sr, sx⟩ = q := ⟨_, rfl⟩
  obtain ⟨dX, hdX⟩ : ∃ q, Od.hasX ⟨dm, dr, dx⟩ = q := ⟨_, rfl⟩
  have HCo := hide (show Is.code ⟨(k : Int), ⟨sm, sr, sx⟩, ⟨dm, dr, dx⟩, n⟩ = b + n % 256 by unfold Is.code; simp only [Int.toNat_natCast, hp6, hq6, hbk]; rw [if_neg (by omega)]; rw [if_neg (by omega)]; rw [if_neg (by omega)]; rw [if_neg (by omega)]; rw [if_pos (by omega)])
  have HXs := hide (show Is.xs ⟨(k : Int), ⟨sm, sr, sx⟩, ⟨dm, dr, dx⟩, n⟩ = ([] : List Int) by unfold Is.xs; simp only; rw [if_neg (by omega), if_neg (by omega)]; rfl)
  have hle : (k : Int) ≤ 21 := h2
  have h255 := i64_and255 n
  have nd6 : decide ((k : Int) ≤ 6) = false := by simp; omega
  have nd14 : decide ((k : Int) ≤ 14) = false := by simp; omega
  have nd15 : decide ((k : Int) ≤ 15) = false := by simp; omega
  have ne15 : ((k : Int) == 15) = false := beq_eq_false_iff_ne.2 (by omega)
  have ne16 : ((k : Int) == 16) = false := beq_eq_false_iff_ne.2 (by omega)
  have ne23 : ((k : Int) == 23) = false := beq_eq_false_iff_ne.2 (by omega)
  clear h1 h2
  clear q3 q4 q5 q6 q8 q9 q10 q11
  go_enter Try.func79, Try.ntmps79
  go_wp2_with fail
  refine (insOk_any ⟨(k : Int), ⟨sm, sr, sx⟩, ⟨dm, dr, dx⟩, n⟩ _).mono ?_
  rintro e w' ⟨rfl, hb⟩
  have Bz := box_step Bz (unhide HZ) hb
  have a0 : w'.cell? ⟨w.heap.size, 0, none⟩ = some (.int .i64 (k : Int)) := unhide HCL w' Bz 0 _ rfl
  have A0 : ∀ o, (w'.alloc o).cell? ⟨w.heap.size, 0, none⟩ = some (.int .i64 (k : Int)) := fun o => alloc_cell a0 o
  have a1 : w'.cell? ⟨w.heap.size, 1, none⟩ = some (.int .i64 sm) := unhide HCL w' Bz 1 _ rfl
  have A1 : ∀ o, (w'.alloc o).cell? ⟨w.heap.size, 1, none⟩ = some (.int .i64 sm) := fun o => alloc_cell a1 o
  have a2 : w'.cell? ⟨w.heap.size, 2, none⟩ = some (.int .i64 sr) := unhide HCL w' Bz 2 _ rfl
  have A2 : ∀ o, (w'.alloc o).cell? ⟨w.heap.size, 2, none⟩ = some (.int .i64 sr) := fun o => alloc_cell a2 o
  have a3 : w'.cell? ⟨w.heap.size, 3, none⟩ = some (.int .i64 sx) := unhide HCL w' Bz 3 _ rfl
  have A3 : ∀ o, (w'.alloc o).cell? ⟨w.heap.size, 3, none⟩ = some (.int .i64 sx) := fun o => alloc_cell a3 o
  have a4 : w'.cell? ⟨w.heap.size, 4, none⟩ = some (.int .i64 dm) := unhide HCL w' Bz 4 _ rfl
  have A4 : ∀ o, (w'.alloc o).cell? ⟨w.heap.size, 4, none⟩ = some (.int .i64 dm) := fun o => alloc_cell a4 o
  have a5 : w'.cell? ⟨w.heap.size, 5, none⟩ = some (.int .i64 dr) := unhide HCL w' Bz 5 _ rfl
  have A5 : ∀ o, (w'.alloc o).cell? ⟨w.heap.size, 5, none⟩ = some (.int .i64 dr) := fun o => alloc_cell a5 o
  have a6 : w'.cell? ⟨w.heap.size, 6, none⟩ = some (.int .i64 dx) := unhide HCL w' Bz 6 _ rfl
  have A6 : ∀ o, (w'.alloc o).cell? ⟨w.heap.size, 6, none⟩ = some (.int .i64 dx) := fun o => alloc_cell a6 o
  have a7 : w'.cell? ⟨w.heap.size, 7, none⟩ = some (.int .i64 n) := unhide HCL w' Bz 7 _ rfl
  have A7 : ∀ o, (w'.alloc o).cell? ⟨w.heap.size, 7, none⟩ = some (.int .i64 n) := fun o => alloc_cell a7 o
  clear hb
  rw [hok]
  go_wp2_with fail
  refine (base_any k (by omega) _).mono ?_
  rintro e w' ⟨rfl, hb⟩
  have Bz := box_step Bz (unhide HZ) hb
  have a0 : w'.cell? ⟨w.heap.size, 0, none⟩ = some (.int .i64 (k : Int)) := unhide HCL w' Bz 0 _ rfl
  have A0 : ∀ o, (w'.alloc o).cell? ⟨w.heap.size, 0, none⟩ = some (.int .i64 (k : Int)) := fun o => alloc_cell a0 o
  have a1 : w'.cell? ⟨w.heap.size, 1, none⟩ = some (.int .i64 sm) := unhide HCL w' Bz 1 _ rfl
  have A1 : ∀ o, (w'.alloc o).cell? ⟨w.heap.size, 1, none⟩ = some (.int .i64 sm) := fun o => alloc_cell a1 o
  have a2 : w'.cell? ⟨w.heap.size, 2, none⟩ = some (.int .i64 sr) := unhide HCL w' Bz 2 _ rfl
  have A2 : ∀ o, (w'.alloc o).cell? ⟨w.heap.size, 2, none⟩ = some (.int .i64 sr) := fun o => alloc_cell a2 o
  have a3 : w'.cell? ⟨w.heap.size, 3, none⟩ = some (.int .i64 sx) := unhide HCL w' Bz 3 _ rfl
  have A3 : ∀ o, (w'.alloc o).cell? ⟨w.heap.size, 3, none⟩ = some (.int .i64 sx) := fun o => alloc_cell a3 o
  have a4 : w'.cell? ⟨w.heap.size, 4, none⟩ = some (.int .i64 dm) := unhide HCL w' Bz 4 _ rfl
  have A4 : ∀ o, (w'.alloc o).cell? ⟨w.heap.size, 4, none⟩ = some (.int .i64 dm) := fun o => alloc_cell a4 o
  have a5 : w'.cell? ⟨w.heap.size, 5, none⟩ = some (.int .i64 dr) := unhide HCL w' Bz 5 _ rfl
  have A5 : ∀ o, (w'.alloc o).cell? ⟨w.heap.size, 5, none⟩ = some (.int .i64 dr) := fun o => alloc_cell a5 o
  have a6 : w'.cell? ⟨w.heap.size, 6, none⟩ = some (.int .i64 dx) := unhide HCL w' Bz 6 _ rfl
  have A6 : ∀ o, (w'.alloc o).cell? ⟨w.heap.size, 6, none⟩ = some (.int .i64 dx) := fun o => alloc_cell a6 o
  have a7 : w'.cell? ⟨w.heap.size, 7, none⟩ = some (.int .i64 n) := unhide HCL w' Bz 7 _ rfl
  have A7 : ∀ o, (w'.alloc o).cell? ⟨w.heap.size, 7, none⟩ = some (.int .i64 n) := fun o => alloc_cell a7 o
  clear hb
  rw [hbk]
  have hsz := Bz.size
  rw [unhide HZ] at hsz
  have OO := hide ((own_one w' (b + n % 256)).base (show w.heap.size + 1 ≤ w'.heap.size by omega))
  have HN : (Value.slice (some ⟨w'.heap.size, 0, none⟩) 1 1) ≠ .slice none 0 0 := by simp
  have B0 := box_step Bz (unhide HZ) ((Below.refl w'.heap.size w').alloc (Nat.le_refl _) (Obj.cells #[.int .i64 (b + n % 256)] 3))
  have Bz := B0
  go_wp2
  go_ret
  exact ⟨(.slice (some ⟨w'.heap.size, 0, none⟩) 1 1), rfl, HN, by rw [unhide HCo, unhide HXs]; exact (unhide OO).base (by omega), unhide HB _ Bz⟩

set_option maxHeartbeats 4000000 in
theorem encS_F (k : Nat) (sm sr sx dm dr dx n : Int) (w : World) (hok : Is.ok ⟨(k : Int), ⟨sm, sr, sx⟩, ⟨dm, dr, dx⟩, n⟩ = true) (h1 : (k : Int) = 22) :
    Calls Try.prog 79 #[.agg #[.int .i64 (k : Int), .int .i64 sm, .int .i64 sr, .int .i64 sx, .int .i64 dm, .int .i64 dr, .int .i64 dx, .int .i64 n]] w fun e w' => ∃ v, e = .returned v ∧ v ≠ .slice none 0 0 ∧ OwnN w' w.heap.size v (Is.code ⟨(k : Int), ⟨sm, sr, sx⟩, ⟨dm, dr, dx⟩, n⟩ :: Is.xs ⟨(k : Int), ⟨sm, sr, sx⟩, ⟨dm, dr, dx⟩, n⟩) ∧ Below w.heap.size w w' := by
  obtain ⟨i0, hi, hz0, hz1, hz2⟩ := info_parts info3
  have HZ := hide (show (w.alloc (Obj.cells #[.int .i64 (k : Int), .int .i64 sm, .int .i64 sr, .int .i64 sx, .int .i64 dm, .int .i64 dr, .int .i64 dx, .int .i64 n] 92)).heap.size = w.heap.size + 1 by simp)
  have HCL := hide (box_cells w #[.int .i64 (k : Int), .int .i64 sm, .int .i64 sr, .int .i64 sx, .int .i64 dm, .int .i64 dr, .int .i64 dx, .int .i64 n] 92)
  have HB := hide (box_below w (Obj.cells #[.int .i64 (k : Int), .int .i64 sm, .int .i64 sr, .int .i64 sx, .int .i64 dm, .int .i64 dr, .int .i64 dx, .int .i64 n] 92))
  have Bz : Below (w.heap.size + 1) (w.alloc (Obj.cells #[.int .i64 (k : Int), .int .i64 sm, .int .i64 sr, .int .i64 sx, .int .i64 dm, .int .i64 dr, .int .i64 dx, .int .i64 n] 92)) (w.alloc (Obj.cells #[.int .i64 (k : Int), .int .i64 sm, .int .i64 sr, .int .i64 sx, .int .i64 dm, .int .i64 dr, .int .i64 dx, .int .i64 n] 92)) := Below.refl _ _
  obtain ⟨⟨q1, q2⟩, q3, q4, q5, q6, q7, q8, q9, q10, q11⟩ := is_ok hok
  simp only at q1 q2 q3 q4 q5 q6 q7 q8 q9 q10 q11
  have hbb := base_bd ⟨k, by omega⟩
  simp only at hbb
  obtain ⟨b, hbk⟩ : ∃ b, baseAt k = b := ⟨_, rfl⟩
  rw [hbk] at hbb
  obtain ⟨p, hp6⟩ : ∃ p, Od.six ⟨sm, sr, sx⟩ = p := ⟨_, rfl⟩
  obtain ⟨q, hq6⟩ : ∃ q, Od.six ⟨dm, dr, dx⟩ = q := ⟨_, rfl⟩
  obtain ⟨sX, hsX⟩ : ∃ q, Od.hasX ⟨sm, sr, sx⟩ = q := ⟨_, rfl⟩
  obtain ⟨dX, hdX⟩ : ∃ q, Od.hasX ⟨dm, dr, dx⟩ = q := ⟨_, rfl⟩
  have HCo := hide (show Is.code ⟨(k : Int), ⟨sm, sr, sx⟩, ⟨dm, dr, dx⟩, n⟩ = b by unfold Is.code; simp only [Int.toNat_natCast, hp6, hq6, hbk]; rw [if_neg (by omega)]; rw [if_neg (by omega)]; rw [if_neg (by omega)]; rw [if_neg (by omega)]; rw [if_neg (by omega)])
  have HXs := hide (show Is.xs ⟨(k : Int), ⟨sm, sr, sx⟩, ⟨dm, dr, dx⟩, n⟩ = ([] : List Int) by unfold Is.xs; simp only; rw [if_neg (by omega), if_neg (by omega)]; rfl)
  have nd6 : decide ((k : Int) ≤ 6) = false := by simp; omega
  have nd14 : decide ((k : Int) ≤ 14) = false := by simp; omega
  have nd15 : decide ((k : Int) ≤ 15) = false := by simp; omega
  have nd21 : decide ((k : Int) ≤ 21) = false := by simp; omega
  have ne15 : ((k : Int) == 15) = false := beq_eq_false_iff_ne.2 (by omega)
  have ne16 : ((k : Int) == 16) = false := beq_eq_false_iff_ne.2 (by omega)
  have ne23 : ((k : Int) == 23) = false := beq_eq_false_iff_ne.2 (by omega)
  clear h1
  clear q3 q4 q5 q6 q8 q9 q10 q11
  go_enter Try.func79, Try.ntmps79
  go_wp2_with fail
  refine (insOk_any ⟨(k : Int), ⟨sm, sr, sx⟩, ⟨dm, dr, dx⟩, n⟩ _).mono ?_
  rintro e w' ⟨rfl, hb⟩
  have Bz := box_step Bz (unhide HZ) hb
  have a0 : w'.cell? ⟨w.heap.size, 0, none⟩ = some (.int .i64 (k : Int)) := unhide HCL w' Bz 0 _ rfl
  have A0 : ∀ o, (w'.alloc o).cell? ⟨w.heap.size, 0, none⟩ = some (.int .i64 (k : Int)) := fun o => alloc_cell a0 o
  have a1 : w'.cell? ⟨w.heap.size, 1, none⟩ = some (.int .i64 sm) := unhide HCL w' Bz 1 _ rfl
  have A1 : ∀ o, (w'.alloc o).cell? ⟨w.heap.size, 1, none⟩ = some (.int .i64 sm) := fun o => alloc_cell a1 o
  have a2 : w'.cell? ⟨w.heap.size, 2, none⟩ = some (.int .i64 sr) := unhide HCL w' Bz 2 _ rfl
  have A2 : ∀ o, (w'.alloc o).cell? ⟨w.heap.size, 2, none⟩ = some (.int .i64 sr) := fun o => alloc_cell a2 o
  have a3 : w'.cell? ⟨w.heap.size, 3, none⟩ = some (.int .i64 sx) := unhide HCL w' Bz 3 _ rfl
  have A3 : ∀ o, (w'.alloc o).cell? ⟨w.heap.size, 3, none⟩ = some (.int .i64 sx) := fun o => alloc_cell a3 o
  have a4 : w'.cell? ⟨w.heap.size, 4, none⟩ = some (.int .i64 dm) := unhide HCL w' Bz 4 _ rfl
  have A4 : ∀ o, (w'.alloc o).cell? ⟨w.heap.size, 4, none⟩ = some (.int .i64 dm) := fun o => alloc_cell a4 o
  have a5 : w'.cell? ⟨w.heap.size, 5, none⟩ = some (.int .i64 dr) := unhide HCL w' Bz 5 _ rfl
  have A5 : ∀ o, (w'.alloc o).cell? ⟨w.heap.size, 5, none⟩ = some (.int .i64 dr) := fun o => alloc_cell a5 o
  have a6 : w'.cell? ⟨w.heap.size, 6, none⟩ = some (.int .i64 dx) := unhide HCL w' Bz 6 _ rfl
  have A6 : ∀ o, (w'.alloc o).cell? ⟨w.heap.size, 6, none⟩ = some (.int .i64 dx) := fun o => alloc_cell a6 o
  have a7 : w'.cell? ⟨w.heap.size, 7, none⟩ = some (.int .i64 n) := unhide HCL w' Bz 7 _ rfl
  have A7 : ∀ o, (w'.alloc o).cell? ⟨w.heap.size, 7, none⟩ = some (.int .i64 n) := fun o => alloc_cell a7 o
  clear hb
  rw [hok]
  go_wp2_with fail
  refine (base_any k (by omega) _).mono ?_
  rintro e w' ⟨rfl, hb⟩
  have Bz := box_step Bz (unhide HZ) hb
  have a0 : w'.cell? ⟨w.heap.size, 0, none⟩ = some (.int .i64 (k : Int)) := unhide HCL w' Bz 0 _ rfl
  have A0 : ∀ o, (w'.alloc o).cell? ⟨w.heap.size, 0, none⟩ = some (.int .i64 (k : Int)) := fun o => alloc_cell a0 o
  have a1 : w'.cell? ⟨w.heap.size, 1, none⟩ = some (.int .i64 sm) := unhide HCL w' Bz 1 _ rfl
  have A1 : ∀ o, (w'.alloc o).cell? ⟨w.heap.size, 1, none⟩ = some (.int .i64 sm) := fun o => alloc_cell a1 o
  have a2 : w'.cell? ⟨w.heap.size, 2, none⟩ = some (.int .i64 sr) := unhide HCL w' Bz 2 _ rfl
  have A2 : ∀ o, (w'.alloc o).cell? ⟨w.heap.size, 2, none⟩ = some (.int .i64 sr) := fun o => alloc_cell a2 o
  have a3 : w'.cell? ⟨w.heap.size, 3, none⟩ = some (.int .i64 sx) := unhide HCL w' Bz 3 _ rfl
  have A3 : ∀ o, (w'.alloc o).cell? ⟨w.heap.size, 3, none⟩ = some (.int .i64 sx) := fun o => alloc_cell a3 o
  have a4 : w'.cell? ⟨w.heap.size, 4, none⟩ = some (.int .i64 dm) := unhide HCL w' Bz 4 _ rfl
  have A4 : ∀ o, (w'.alloc o).cell? ⟨w.heap.size, 4, none⟩ = some (.int .i64 dm) := fun o => alloc_cell a4 o
  have a5 : w'.cell? ⟨w.heap.size, 5, none⟩ = some (.int .i64 dr) := unhide HCL w' Bz 5 _ rfl
  have A5 : ∀ o, (w'.alloc o).cell? ⟨w.heap.size, 5, none⟩ = some (.int .i64 dr) := fun o => alloc_cell a5 o
  have a6 : w'.cell? ⟨w.heap.size, 6, none⟩ = some (.int .i64 dx) := unhide HCL w' Bz 6 _ rfl
  have A6 : ∀ o, (w'.alloc o).cell? ⟨w.heap.size, 6, none⟩ = some (.int .i64 dx) := fun o => alloc_cell a6 o
  have a7 : w'.cell? ⟨w.heap.size, 7, none⟩ = some (.int .i64 n) := unhide HCL w' Bz 7 _ rfl
  have A7 : ∀ o, (w'.alloc o).cell? ⟨w.heap.size, 7, none⟩ = some (.int .i64 n) := fun o => alloc_cell a7 o
  clear hb
  rw [hbk]
  have hsz := Bz.size
  rw [unhide HZ] at hsz
  have OO := hide ((own_one w' (b)).base (show w.heap.size + 1 ≤ w'.heap.size by omega))
  have HN : (Value.slice (some ⟨w'.heap.size, 0, none⟩) 1 1) ≠ .slice none 0 0 := by simp
  have B0 := box_step Bz (unhide HZ) ((Below.refl w'.heap.size w').alloc (Nat.le_refl _) (Obj.cells #[.int .i64 (b)] 3))
  have Bz := B0
  go_wp2
  go_ret
  exact ⟨(.slice (some ⟨w'.heap.size, 0, none⟩) 1 1), rfl, HN, by rw [unhide HCo, unhide HXs]; exact (unhide OO).base (by omega), unhide HB _ Bz⟩

end Go.Proofs.Ytfkmibgamkignaa

namespace Go.Proofs.Ytfkmibgamkignaa
open Go.ChangeShapes Go.WideShapes Go.ChangeAt Go.RowKit
set_option linter.unusedVariables false
set_option maxRecDepth 8000

theorem encS_no (op sm sr sx dm dr dx n : Int) (w : World) (hok : Is.ok ⟨op, ⟨sm, sr, sx⟩, ⟨dm, dr, dx⟩, n⟩ = false) :
    Calls Try.prog 79 #[.agg #[.int .i64 op, .int .i64 sm, .int .i64 sr, .int .i64 sx, .int .i64 dm, .int .i64 dr, .int .i64 dx, .int .i64 n]] w fun e w' => ∃ v, e = .returned v ∧ v ≠ .slice none 0 0 ∧ OwnN w' w.heap.size v [] ∧ Below w.heap.size w w' := by
  have HB := hide (box_below w (Obj.cells #[.int .i64 op, .int .i64 sm, .int .i64 sr, .int .i64 sx, .int .i64 dm, .int .i64 dr, .int .i64 dx, .int .i64 n] 92))
  have HZ := hide (show (w.alloc (Obj.cells #[.int .i64 op, .int .i64 sm, .int .i64 sr, .int .i64 sx, .int .i64 dm, .int .i64 dr, .int .i64 dx, .int .i64 n] 92)).heap.size = w.heap.size + 1 by simp)
  go_enter Try.func79, Try.ntmps79
  go_wp2_with fail
  refine (insOk_any ⟨op, ⟨sm, sr, sx⟩, ⟨dm, dr, dx⟩, n⟩ _).mono ?_
  rintro e w1 ⟨rfl, hb⟩
  rw [hok]
  rw [unhide HZ] at hb
  have s1 := hb.size
  rw [unhide HZ] at s1
  have B1 := hide (unhide HB _ hb)
  clear hb
  go_wp2
  go_ret
  exact ⟨.slice (some ⟨w1.heap.size, 0, none⟩) 0 0, rfl, by simp, (ownN_empty w1).base (by omega), (unhide B1).alloc (by omega) _⟩

theorem encS_any (i : Is) (w : World) : Calls Try.prog 79 #[i.v] w fun e w' => ∃ v, e = .returned v ∧ v ≠ .slice none 0 0 ∧ OwnN w' w.heap.size v i.enc ∧ Below w.heap.size w w' := by
  obtain ⟨op, ⟨sm, sr, sx⟩, ⟨dm, dr, dx⟩, n⟩ := i
  cases hok : Is.ok ⟨op, ⟨sm, sr, sx⟩, ⟨dm, dr, dx⟩, n⟩
  · unfold Is.enc
    rw [hok]
    exact encS_no op sm sr sx dm dr dx n w hok
  · have h := (is_ok hok).1
    simp only at h
    obtain ⟨k, rfl⟩ := Int.eq_ofNat_of_zero_le (show 0 ≤ op by omega)
    unfold Is.enc
    rw [if_pos hok]
    by_cases h1 : (k : Int) ≤ 6
    · exact encS_A k sm sr sx dm dr dx n w hok h1
    by_cases h2 : (k : Int) ≤ 14
    · exact encS_B k sm sr sx dm dr dx n w hok (by omega) h2
    by_cases h3 : (k : Int) = 15
    · exact encS_C k sm sr sx dm dr dx n w hok h3
    by_cases h4 : (k : Int) = 16
    · exact encS_D k sm sr sx dm dr dx n w hok h4
    by_cases h5 : (k : Int) = 23
    · exact encS_D2 k sm sr sx dm dr dx n w hok h5
    by_cases h6 : (k : Int) ≤ 21
    · exact encS_E k sm sr sx dm dr dx n w hok (by omega) h6
    · exact encS_F k sm sr sx dm dr dx n w hok (by omega)
end Go.Proofs.Ytfkmibgamkignaa

namespace Go.Proofs.Ytfkmibgamkignaa
open Go.ChangeShapes Go.WideShapes Go.ChangeAt Go.RowKit
set_option linter.unusedVariables false
set_option maxRecDepth 8000
set_option linter.unusedSimpArgs false

def InO (o : Od) : Prop := 0 ≤ o.m ∧ o.m ≤ 7 ∧ 0 ≤ o.r ∧ o.r ≤ 7
theorem six_bd {o : Od} (h : InO o) : 0 ≤ o.six ∧ o.six ≤ 63 := by unfold InO at h; unfold Od.six; omega
def Is.fld (i : Is) : Int :=
  if i.op ≤ 6 then i.s.six * 64 + i.d.six
  else if i.op ≤ 14 then i.d.six
  else if i.op = 15 then i.n * 64 + i.d.six
  else if 17 ≤ i.op ∧ i.op ≤ 21 then i.n % 256
  else i.n
theorem ok_inO {o : Od} (h : o.ok = true) : InO o := (od_ok h).1
theorem code_fld (i : Is) (h : i.ok = true) : i.code = baseAt i.op.toNat + i.fld ∧ 0 ≤ i.fld ∧ i.fld ≤ 4095 := by
  obtain ⟨h1, h2, h3, h4, h5, h6, h7, h8, h9, h10⟩ := is_ok h
  unfold Is.code Is.fld
  have a1 : i.op ≤ 6 → 0 ≤ i.s.six ∧ i.s.six ≤ 63 := fun h => six_bd (ok_inO (h2 h))
  have a2 : i.op ≤ 15 → 0 ≤ i.d.six ∧ i.d.six ≤ 63 := fun h => six_bd (ok_inO (h3 h))
  by_cases c1 : i.op ≤ 6
  · have := a1 c1; have := a2 (by omega)
    rw [if_pos c1, if_pos c1]; omega
  rw [if_neg c1, if_neg c1]
  by_cases c2 : i.op ≤ 14
  · have := a2 (by omega)
    rw [if_pos c2, if_pos c2]; omega
  rw [if_neg c2, if_neg c2]
  by_cases c3 : i.op = 15
  · have := a2 (by omega); have := h8 (by omega)
    rw [if_pos c3, if_pos c3]; omega
  rw [if_neg c3, if_neg c3]
  by_cases c4 : i.op = 16 ∨ i.op = 23
  · rw [if_pos c4, if_neg (by omega)]
    have : 0 ≤ i.n := by rcases c4 with c | c
                         · exact (h8 (by omega)).1
                         · exact h10 c
    omega
  rw [if_neg c4]
  by_cases c5 : i.op ≤ 21
  · rw [if_pos c5, if_pos (by omega)]; omega
  · rw [if_neg c5, if_neg (by omega)]
    have := h7 (by omega)
    omega

def Wd (ns : List Int) : Prop := ∀ x ∈ ns, 0 ≤ x ∧ x ≤ 65535
theorem nAt_mem {ns : List Int} {i : Nat} (h : i < ns.length) : nAt ns i ∈ ns := by
  unfold nAt
  rw [List.getD_eq_getElem?_getD, List.getElem?_eq_getElem h]
  exact List.getElem_mem h
theorem Wd.bds {ns : List Int} (h : Wd ns) : Bds ns := fun i hi => by have := h _ (nAt_mem hi); omega
theorem Wd.app {ns ms : List Int} (h : Wd ns) (k : Wd ms) : Wd (ns ++ ms) := fun x hx => (List.mem_append.1 hx).elim (h x) (k x)
theorem enc_wd (i : Is) : Wd i.enc := by
  intro x hx
  unfold Is.enc at hx
  split at hx
  · rename_i hok
    obtain ⟨h1, h2, h3, _⟩ := is_ok hok
    rcases List.mem_cons.1 hx with rfl | hx
    · have hc := code_fld i hok
      have hb := base_bd ⟨i.op.toNat, by omega⟩
      simp only at hb
      omega
    · unfold Is.xs at hx
      rcases List.mem_append.1 hx with hx | hx
      · split at hx
        · rename_i h
          have := od_ok (h2 h.1)
          simp at hx
          subst hx
          omega
        · simp at hx
      · split at hx
        · rename_i h
          have := od_ok (h3 h.1)
          simp at hx
          subst hx
          omega
        · simp at hx
  · simp at hx
theorem enc_len3 (i : Is) : i.enc.length ≤ 3 := by
  unfold Is.enc Is.xs
  split
  · simp only [List.length_cons, List.length_append]
    split <;> split <;> simp
  · simp
theorem enc_pos {i : Is} (h : i.ok = true) : 0 < i.enc.length := by
  unfold Is.enc
  rw [if_pos h]
  simp

set_option maxHeartbeats 2000000 in
theorem wordsD_any (cb : Nat) (a : Option Addr) (len cap : Nat) (xs : List UInt8) (most : Nat) (hmo : 0 < most ∧ most ≤ 100) (w : World) (hc : Cur w cb a len cap xs) :
    Calls Try.prog 46 #[.pointer (some ⟨cb, 0, none⟩), .int .i64 (most : Int)] w fun e w' => ∃ v ns, e = .returned v ∧ v ≠ .slice none 0 0 ∧ OwnN w' w.heap.size v ns ∧ Wd ns ∧ ns.length ≤ 3 * most ∧ Cur w' cb a len cap xs ∧ w.grownBy w' (some cb) := by
  obtain ⟨i0, hi, hz0, hz1, hz2⟩ := info_parts info3
  have hlt := hc.lt
  have hcd := hide hc.code
  have O0 := hide (ownN_empty w)
  have G0 := hide (grownBy_below (r := some cb) ((Below.refl w.heap.size w).alloc (Nat.le_refl _) (Obj.cells #[] 3)))
  have B0 := hide (below_any cb a len cap xs (most : Int) (w.alloc (Obj.cells #[] 3)) (by omega) (hc.later ((Below.refl _ _).alloc (Nat.le_refl _) _)))
  clear hc
  go_enter Try.func46, Try.ntmps46
  go_wp2_with fail
  refine (unhide B0).mono ?_
  rintro e w1 ⟨y, hy0, hy1, rfl, hc1, hg1⟩
  obtain ⟨hy2, hy3⟩ := hy0 (by omega)
  obtain ⟨k0, rfl⟩ := Int.eq_ofNat_of_zero_le hy2
  have O1 := hide ((unhide O0).past hg1 (by simp [Value.ownBlock]; omega))
  have G1 := hide (grownBy_trans (unhide G0) hg1)
  have C1 := hide hc1
  clear hc1 hg1 O0 G0 B0 hy0 hy1
  go_wp2_with fail
  go_loopw [5, 6] (fun v v6 wr => ∃ (k : Nat) (ns : List Int), k ≤ k0 ∧ v6 = .int .i64 k ∧ v ≠ .slice none 0 0 ∧ OwnN wr w.heap.size v ns ∧ Hid (Wd ns) ∧ ns.length + 3 * k ≤ 3 * most ∧ Hid (Cur wr cb a len cap xs) ∧ Hid (w.grownBy wr (some cb))) (fun _ v6 _ => (intOf v6).toNat)
  case atStart => exact ⟨k0, [], Nat.le_refl _, rfl, by simp, unhide O1, (fun x hx => by simp at hx), by simp; omega, unhide C1, unhide G1⟩
  case round =>
    clear O1 G1 C1
    obtain ⟨k, ns, hk, rfl, hne, hown, hwd, hln, hcur, hgr⟩ := hrel
    by_cases hk0 : k = 0
    · subst hk0
      have HW := hwd
      clear hwd
      go_wp2
      go_ret
      exact ⟨u5, ns, rfl, hne, hown, HW.out, by omega, hcur.out, hgr.out⟩
    · have hkp : (0 : Int) < (k : Int) := by omega
      have hob : ∀ g, u5.ownBlock = some g → w.heap.size ≤ g := fun g e => (hown.lt e).1
      have P1 := hide (once_any cb a len cap xs 8 wr (by omega) hcur.out)
      have OW := hide hown
      clear hown hk0
      go_wp2_with fail
      refine (unhide P1).mono ?_
      rintro e w2 ⟨b, rfl, hc2, hg2⟩
      have O2 := hide ((unhide OW).past hg2 (fun e => by have := hob cb e; omega))
      have G2 := hide (grownBy_trans hgr.out hg2)
      have s2 := hg2.size
      have s1 := hgr.out.size
      have C2 := hide hc2
      clear hc2 hg2 P1 OW hcur hgr
      cases b
      · have P3 := hide (drawD_any cb a len cap xs w2 (unhide C2))
        go_wp2_with fail
        refine (unhide P3).mono ?_
        rintro e w3 ⟨i, hok, rfl, hc3, hg3⟩
        have O3 := hide ((unhide O2).past hg3 (fun e => by have := hob cb e; omega))
        have G3 := hide (grownBy_trans (unhide G2) hg3)
        have s3 := hg3.size
        have C3 := hide hc3
        have P4 := hide (encS_any i w3)
        have hl1 := enc_len3 i
        have hl2 := enc_pos hok
        have hw2 := hide (enc_wd i)
        generalize i.enc = es at P4 hl1 hl2 hw2
        clear hc3 hg3 P3 O2 G2 C2 hok
        go_wp2_with fail
        refine (unhide P4).mono ?_
        rintro e w4 ⟨v4, rfl, hne4, own4, hb4⟩
        have s4 := hb4.size
        have O4 := hide ((unhide O3).later hb4)
        have G4 := hide (grownBy_trans (unhide G3) (grownBy_below hb4))
        have C4 := hide ((unhide C3).later hb4)
        rcases own4.form with ⟨e, _⟩ | ⟨g4, cap4, rfl, _⟩
        · exact absurd e hne4
        have K4 := hide (World.ownsRow.cells own4 rfl)
        clear own4 hb4 P4 O3 G3 C3 hne4
        go_wp2_with (at_builtin; go_must (refine wpList_append_own _ rfl (.tmp 22) (.tmp 25) 24 rfl w.heap.size 3 i0 (.int .i64 0) 1 8 Try.underlying24 hi hz0 hz1 hz2 rfl (by decide) u5 ns.length (cellsN ns) rfl (unhide O4) ⟨g4, 0, none⟩ es.length cap4 (cellsN es) rfl (by rw [cellsN_length]; omega) (unhide K4) (cellsN_one _) (by unfold maxLen; omega) (by omega) (by omega) ?_; intro v8 w8 hown hgrow hnil))
        have HN : v8 ≠ .slice none 0 0 := fun e => by have := hnil.1 e; exact hne this.1
        have O8 := hide (show OwnN w8 w.heap.size v8 (ns ++ es) by unfold OwnN; rw [cellsN_append, List.length_append]; exact hown)
        have C8 := hide ((unhide C4).past hgrow hlt (unhide hcd) hob)
        have G8 := hide (grownBy_own (unhide G4) hgrow hob)
        have W8 := hide (hwd.out.app (unhide hw2))
        clear hown hgrow hnil K4 O4 G4 C4 hwd
        go_wp2
        go_roundw
        case rel => exact ⟨k - 1, ns ++ es, by omega, by go_num, HN, unhide O8, unhide W8, by rw [List.length_append]; omega, unhide C8, unhide G8⟩
        case measure => simp [intOf]; omega
      · have P3 := hide (word_any cb a len cap xs w2 (unhide C2))
        go_wp2_with fail
        refine (unhide P3).mono ?_
        rintro e w3 ⟨x, hx0, hx1, rfl, hc3, hg3⟩
        have O3 := hide ((unhide O2).past hg3 (fun e => by have := hob cb e; omega))
        have G3 := hide (grownBy_trans (unhide G2) hg3)
        have s3 := hg3.size
        have C3 := hide hc3
        have K1 := hide (cell_one_new w3 (Value.int .i64 x) 3)
        have A3 := hide ((Below.refl w3.heap.size w3).alloc (Nat.le_refl _) (Obj.cells #[.int .i64 x] 3))
        clear hc3 hg3 P3 O2 G2 C2
        go_wp2_with (at_builtin; go_must (refine wpList_append_own _ rfl (.tmp 17) (.tmp 20) 24 rfl w.heap.size 3 i0 (.int .i64 0) 1 8 Try.underlying24 hi hz0 hz1 hz2 rfl (by decide) u5 ns.length (cellsN ns) rfl (World.ownsRow.alloc (unhide O3) _) ⟨w3.heap.size, 0, none⟩ 1 1 (cellsN [x]) rfl rfl (unhide K1) (cellsN_one _) (by unfold maxLen; omega) (by omega) (by simp; omega) ?_; intro v8 w8 hown hgrow hnil))
        have HN : v8 ≠ .slice none 0 0 := fun e => by have := hnil.1 e; omega
        have O8 := hide (show OwnN w8 w.heap.size v8 (ns ++ [x]) by unfold OwnN; rw [cellsN_append, List.length_append]; exact hown)
        have C8 := hide (((unhide C3).later (unhide A3)).past hgrow hlt (unhide hcd) hob)
        have G8 := hide (grownBy_own (grownBy_trans (unhide G3) (grownBy_below (unhide A3))) hgrow hob)
        have W8 := hide (hwd.out.app (ms := [x]) (fun z hz => by simp at hz; omega))
        clear hown hgrow hnil K1 O3 G3 C3 A3 hwd
        go_wp2
        go_roundw
        case rel => exact ⟨k - 1, ns ++ [x], by omega, by go_num, HN, unhide O8, unhide W8, by rw [List.length_append]; simp; omega, unhide C8, unhide G8⟩
        case measure => simp [intOf]; omega
end Go.Proofs.Ytfkmibgamkignaa

namespace Go.Proofs.Ytfkmibgamkignaa
open Go.ChangeShapes Go.WideShapes Go.ChangeAt Go.RowKit
set_option linter.unusedVariables false
set_option maxRecDepth 8000
set_option linter.unusedSimpArgs false

/-- The byte at a place, or what stands for one. -/
def atV (xs : List UInt8) (i : Nat) : Int := if i < xs.length then bAt xs i else ((i : Int) * 31 + (xs.length : Int) * 7) % 256
theorem atV_bd (xs : List UInt8) (i : Nat) : 0 ≤ atV xs i ∧ atV xs i ≤ 255 := by
  unfold atV
  split
  · exact bAt_bd xs i
  · omega
set_option maxHeartbeats 400000 in
theorem at_any (a : Option Addr) (len cap i : Nat) (xs : List UInt8) (w : World) (hi : i ≤ 10) (hl : xs.length = len) (hm : len ≤ 1048576) (hr : Rd w a xs) : Calls Try.prog 15 #[.slice a len cap, .int .i64 (i : Int)] w fun e w' => e = .returned (.int .i64 (atV xs i)) ∧ w' = w := by
  unfold atV
  rw [hl]
  by_cases h : i < len
  · rw [if_pos h]
    rcases hr with rfl | ⟨b, off, rfl, hb, hc⟩
    · simp at hl; omega
    have hcx := hc i (by omega)
    have hbd := bAt_bd xs i
    clear hc
    go_enter Try.func15, Try.ntmps15
    go_wp2
    go_ret
    exact ⟨rfl, rfl⟩
  · rw [if_neg h]
    go_enter Try.func15, Try.ntmps15
    go_wp2
    go_ret
    exact ⟨rfl, rfl⟩

theorem big_free (a : Option Addr) (len cap : Nat) (w : World) (hm : len ≤ 9223372036854775807) : Calls Try.prog 11 #[.slice a len cap] w fun e w' => e = .returned (.bool (decide ((1048576 : Int) < (len : Int)))) ∧ w' = w := big_any a len cap w hm

/-- A number drawn of a literal list: which one, and nothing old has turned but the cursor. -/
theorem own_lit1 (w : World) (x : Int) : OwnN (w.alloc (.cells #[.int .i64 x] 3)) w.heap.size (.slice (some ⟨w.heap.size, 0, none⟩) 1 1) [x] := own_one w x

theorem results_tmp4 {P : Program} {fn : Func} {t u v x : Tmp} (h : fn.results = #[.tmp t, .tmp u, .tmp v, .tmp x]) (tmps : Array Value) (w : World) : (results fn tmps).run P w = .ok (.tuple #[tmps.getD t undef, tmps.getD u undef, tmps.getD v undef, tmps.getD x undef]) w := by
  simp [results, h]

set_option maxHeartbeats 4000000 in
theorem drawNew_any (a : Option Addr) (len cap : Nat) (xs : List UInt8) (w : World) (hl : xs.length = len) (hm : len ≤ 1048576) (hr : Rd w a xs) :
    Calls Try.prog 12 #[.slice a len cap] w fun e w' => ∃ (s t : Sl) (ni nn : List Int) (p q : Int), e = .returned (.tuple #[.slice s.a s.n s.c, .int .i64 p, .int .i64 q, .slice t.a t.n t.c]) ∧ OwnN w' w.heap.size s.v ni ∧ OwnN w' w.heap.size t.v nn ∧ ni.length ≤ 300 ∧ nn.length ≤ 300 ∧ Below w.heap.size w w' := by
  have P0 := hide (new_any a len cap xs w hl hm hr)
  clear hr
  go_enter Try.func12, Try.ntmps12
  go_wp2_with fail
  refine (unhide P0).mono ?_
  rintro e w1 ⟨rfl, hc1, hb1⟩
  have s1 := hc1.lt
  have CD := hide hc1.code
  have P1 := hide (wordsD_any _ a len cap xs 6 (by omega) w1 hc1)
  have B1 := hide hb1
  clear hc1 hb1 P0
  go_wp2_with fail
  refine (unhide P1).mono ?_
  rintro e w2 ⟨v, ni, rfl, hne, own2, hwd, hln, hc2, hg2⟩
  have s2 := hg2.size
  obtain ⟨sa, sn, sc, rfl⟩ : ∃ a n c, v = .slice a n c := by obtain ⟨a, c, e, _⟩ := own2.rd; exact ⟨_, _, _, e⟩
  have B2 := hide (below_of_new (unhide B1) hg2)
  have O2 := hide (show OwnN w2 w1.heap.size (Sl.mk sa sn sc).v ni from own2)
  have P2 := hide (below_any _ a len cap xs 8 w2 (by omega) hc2)
  clear hc2 hg2 P1 own2 B1 hne hwd
  go_wp2_with fail
  refine (unhide P2).mono ?_
  rintro e w3 ⟨y, hy0, hy1, rfl, hc3, hg3⟩
  have O3 := hide ((unhide O2).past hg3 (fun e => by have := ((unhide O2).lt e).1; omega))
  have B3 := hide (below_of_new (unhide B2) hg3)
  have s3 := hg3.size
  have C3 := hide hc3
  clear hc3 hg3 P2 O2 B2 hy0 hy1
  by_cases h0 : y = 0
  · have q0 : (y == 0) = true := eqB_t _ _ h0
    clear h0
    have K1 := hide (cell_one_new w3 (Value.int .i64 (-1)) 3)
    have A3 := hide ((Below.refl w3.heap.size w3).alloc (Nat.le_refl _) (.cells #[.int .i64 (-1)] 3))
    go_wp2_with (at_builtin; go_must (refine wpList_app rfl _ _ rfl w1.heap.size (.slice sa sn sc) ni rfl ((unhide O3).later (unhide A3)) ⟨some ⟨w3.heap.size, 0, none⟩, 1, 1⟩ [-1] rfl (OwnN.rd1 (own_one w3 (-1))) rfl (fun e => by cases e) (by simp only; omega) (by have := (unhide A3).size; omega) ?_; intro v8 w8 hown hgrow; obtain ⟨ta, tn, tc, rfl⟩ : ∃ a n c, v8 = .slice a n c := (by obtain ⟨a, c, e, _⟩ := hown.rd; exact ⟨_, _, _, e⟩); have HOWN := hide hown; have HGROW := hide hgrow; clear hown hgrow))
    have hgrow := unhide HGROW
    have hgo : ∀ q, (Value.slice sa sn sc).ownBlock = some q → w1.heap.size ≤ q := fun q e => ((unhide O3).lt e).1
    have O := hide (show OwnN w8 w1.heap.size (Sl.mk ta tn tc).v (ni ++ [-1]) from unhide HOWN)
    have C := hide (((unhide C3).later (unhide A3)).past hgrow s1 (unhide CD) hgo)
    have B := hide (((unhide B3).trans ((unhide A3).mono (by have := (unhide B3).size; omega))).grown hgrow (by have := (unhide B3).size; have := (unhide A3).size; omega) (fun q e => by have := hgo q e; omega))
    clear HOWN HGROW hgrow hgo O3 B3 C3 A3 K1
    have P := hide (int_lit _ a len cap xs w8 (unhide C) [0, 4, 64, 3, -2, 510, 512] 7 rfl (by omega) (by omega) w8.heap.size rfl _ rfl)
    go_wp2_with fail
    refine (unhide P).mono ?_
    rintro e u0 ⟨j, hj, rfl, hc, hg⟩
    generalize nAt [0, 4, 64, 3, -2, 510, 512] j = x0
    have AL := (Below.refl w8.heap.size w8).alloc (Nat.le_refl _) (.cells (([0, 4, 64, 3, -2, 510, 512] : List Int).map (Value.int .i64)).toArray 3)
    have On := hide (((unhide O).later AL).past hg (fun e => by have := ((unhide O).lt e).1; omega))
    have Bn := hide (below_of_new ((unhide B).trans (AL.mono (unhide B).size)) hg)
    clear O B C P
    have O := hide (unhide On)
    have B := hide (unhide Bn)
    have C := hide hc
    clear On Bn hc hg AL hj
    have P := hide (int_lit _ a len cap xs u0 (unhide C) [0, 64, 65535, 65536, -1] 5 rfl (by omega) (by omega) u0.heap.size rfl _ rfl)
    go_wp2_with fail
    refine (unhide P).mono ?_
    rintro e u1 ⟨j, hj, rfl, hc, hg⟩
    generalize nAt [0, 64, 65535, 65536, -1] j = x1
    have AL := (Below.refl u0.heap.size u0).alloc (Nat.le_refl _) (.cells (([0, 64, 65535, 65536, -1] : List Int).map (Value.int .i64)).toArray 3)
    have On := hide (((unhide O).later AL).past hg (fun e => by have := ((unhide O).lt e).1; omega))
    have Bn := hide (below_of_new ((unhide B).trans (AL.mono (unhide B).size)) hg)
    clear O B C P
    have O := hide (unhide On)
    have B := hide (unhide Bn)
    have C := hide hc
    clear On Bn hc hg AL hj
    have P := hide (int_lit _ a len cap xs u1 (unhide C) [1, 65535, 65536] 3 rfl (by omega) (by omega) u1.heap.size rfl _ rfl)
    go_wp2_with fail
    refine (unhide P).mono ?_
    rintro e u2 ⟨j, hj, rfl, hc, hg⟩
    generalize nAt [1, 65535, 65536] j = x2
    have AL := (Below.refl u1.heap.size u1).alloc (Nat.le_refl _) (.cells (([1, 65535, 65536] : List Int).map (Value.int .i64)).toArray 3)
    have On := hide (((unhide O).later AL).past hg (fun e => by have := ((unhide O).lt e).1; omega))
    have Bn := hide (below_of_new ((unhide B).trans (AL.mono (unhide B).size)) hg)
    clear O B C P
    have O := hide (unhide On)
    have B := hide (unhide Bn)
    have C := hide hc
    clear On Bn hc hg AL hj
    have AL := (Below.refl u2.heap.size u2).alloc (Nat.le_refl _) (.cells #[.int .i64 x2] 3)
    have On := hide ((unhide O).later AL)
    have Bn := hide ((unhide B).trans (AL.mono (unhide B).size))
    have ON := hide (OwnN.base (own_one u2 x2) (B' := w.heap.size) (unhide B).size)
    clear AL
    go_wp2
    refine bodyPost_ret (results_tmp4 rfl _ _) rfl ?_
    exact ⟨⟨ta, tn, tc⟩, ⟨some ⟨u2.heap.size, 0, none⟩, 1, 1⟩, ni ++ [-1], [x2], x0, x1, rfl, (unhide On).base (by omega), unhide ON, by simp; omega, by simp, unhide Bn⟩
  have q0 : (y == 0) = false := eqB_f _ _ h0
  by_cases h1 : y = 1
  · have q1 : (y == 1) = true := eqB_t _ _ h1
    clear h0 h1
    have P := hide (below_any _ a len cap xs 4 w3 (by omega) (unhide C3))
    go_wp2_with fail
    refine (unhide P).mono ?_
    rintro e w4 ⟨z, hz0, hz1, rfl, hc, hg⟩
    obtain ⟨z0, z1⟩ := hz0 (by omega)
    have B4 := hide (below_of_new (unhide B3) hg)
    have C4 := hide hc
    have s4 := hg.size
    obtain ⟨zn, rfl⟩ := Int.eq_ofNat_of_zero_le z0
    clear hc hg P O3 B3 C3 hz0 hz1
    have hmk := run_make_row' (P := Try.prog) 24 3 (.int .i64 0) 8 Try.underlying24 info3 rfl .i64 .i64 (254 + zn) (by omega) (by omega)
    have hma : madeCells #[Value.int .i64 0] (254 + zn) = zA (254 + zn) := by
      obtain rfl | rfl | rfl | rfl : zn = 0 ∨ zn = 1 ∨ zn = 2 ∨ zn = 3 := by omega
      all_goals kernel_rfl
    rw [hma] at hmk
    rw [show ((254 + zn : Nat) : Int) = 254 + (zn : Int) by omega] at hmk
    have AL := (Below.refl w4.heap.size w4).alloc (Nat.le_refl _) (.cells (zA (254 + zn)) 3)
    have O := hide (own_made (B := w1.heap.size) (n := 254 + zn) (heap_alloc_last w4 (.cells (zA (254 + zn)) 3)) (by omega) (by omega))
    have C := hide ((unhide C4).later AL)
    have B := hide ((unhide B4).trans (AL.mono (unhide B4).size))
    clear AL B4 C4 hma
    have P := hide (int_lit _ a len cap xs (w4.alloc (.cells (zA (254 + zn)) 3)) (unhide C) [0, 4, 64, 3, -2, 510, 512] 7 rfl (by omega) (by omega) (w4.heap.size + 1) (by simp) _ rfl)
    go_wp2_with fail
    refine (unhide P).mono ?_
    rintro e u0 ⟨j, hj, rfl, hc, hg⟩
    generalize nAt [0, 4, 64, 3, -2, 510, 512] j = x0
    have AL := (Below.refl (w4.alloc (.cells (zA (254 + zn)) 3)).heap.size (w4.alloc (.cells (zA (254 + zn)) 3))).alloc (Nat.le_refl _) (.cells (([0, 4, 64, 3, -2, 510, 512] : List Int).map (Value.int .i64)).toArray 3)
    have On := hide (((unhide O).later AL).past hg (fun e => by have := ((unhide O).lt e).1; omega))
    have Bn := hide (below_of_new ((unhide B).trans (AL.mono (unhide B).size)) hg)
    clear O B C P
    have O := hide (unhide On)
    have B := hide (unhide Bn)
    have C := hide hc
    clear On Bn hc hg AL hj
    have P := hide (int_lit _ a len cap xs u0 (unhide C) [0, 64, 65535, 65536, -1] 5 rfl (by omega) (by omega) u0.heap.size rfl _ rfl)
    go_wp2_with fail
    refine (unhide P).mono ?_
    rintro e u1 ⟨j, hj, rfl, hc, hg⟩
    generalize nAt [0, 64, 65535, 65536, -1] j = x1
    have AL := (Below.refl u0.heap.size u0).alloc (Nat.le_refl _) (.cells (([0, 64, 65535, 65536, -1] : List Int).map (Value.int .i64)).toArray 3)
    have On := hide (((unhide O).later AL).past hg (fun e => by have := ((unhide O).lt e).1; omega))
    have Bn := hide (below_of_new ((unhide B).trans (AL.mono (unhide B).size)) hg)
    clear O B C P
    have O := hide (unhide On)
    have B := hide (unhide Bn)
    have C := hide hc
    clear On Bn hc hg AL hj
    have P := hide (int_lit _ a len cap xs u1 (unhide C) [1, 65535, 65536] 3 rfl (by omega) (by omega) u1.heap.size rfl _ rfl)
    go_wp2_with fail
    refine (unhide P).mono ?_
    rintro e u2 ⟨j, hj, rfl, hc, hg⟩
    generalize nAt [1, 65535, 65536] j = x2
    have AL := (Below.refl u1.heap.size u1).alloc (Nat.le_refl _) (.cells (([1, 65535, 65536] : List Int).map (Value.int .i64)).toArray 3)
    have On := hide (((unhide O).later AL).past hg (fun e => by have := ((unhide O).lt e).1; omega))
    have Bn := hide (below_of_new ((unhide B).trans (AL.mono (unhide B).size)) hg)
    clear O B C P
    have O := hide (unhide On)
    have B := hide (unhide Bn)
    have C := hide hc
    clear On Bn hc hg AL hj
    have AL := (Below.refl u2.heap.size u2).alloc (Nat.le_refl _) (.cells #[.int .i64 x2] 3)
    have On := hide ((unhide O).later AL)
    have Bn := hide ((unhide B).trans (AL.mono (unhide B).size))
    have ON := hide (OwnN.base (own_one u2 x2) (B' := w.heap.size) (unhide B).size)
    clear AL
    go_wp2
    refine bodyPost_ret (results_tmp4 rfl _ _) rfl ?_
    exact ⟨⟨some ⟨w4.heap.size, 0, none⟩, 254 + zn, 254 + zn⟩, ⟨some ⟨u2.heap.size, 0, none⟩, 1, 1⟩, List.replicate (254 + zn) 0, [x2], x0, x1, rfl, (unhide On).base (by omega), unhide ON, by rw [List.length_replicate]; omega, by simp, unhide Bn⟩
  · have q1 : (y == 1) = false := eqB_f _ _ h1
    clear h0 h1
    have O := hide (unhide O3)
    have C := hide (unhide C3)
    have B := hide (unhide B3)
    clear O3 C3 B3
    have P := hide (int_lit _ a len cap xs w3 (unhide C) [0, 4, 64, 3, -2, 510, 512] 7 rfl (by omega) (by omega) w3.heap.size rfl _ rfl)
    go_wp2_with fail
    refine (unhide P).mono ?_
    rintro e u0 ⟨j, hj, rfl, hc, hg⟩
    generalize nAt [0, 4, 64, 3, -2, 510, 512] j = x0
    have AL := (Below.refl w3.heap.size w3).alloc (Nat.le_refl _) (.cells (([0, 4, 64, 3, -2, 510, 512] : List Int).map (Value.int .i64)).toArray 3)
    have On := hide (((unhide O).later AL).past hg (fun e => by have := ((unhide O).lt e).1; omega))
    have Bn := hide (below_of_new ((unhide B).trans (AL.mono (unhide B).size)) hg)
    clear O B C P
    have O := hide (unhide On)
    have B := hide (unhide Bn)
    have C := hide hc
    clear On Bn hc hg AL hj
    have P := hide (int_lit _ a len cap xs u0 (unhide C) [0, 64, 65535, 65536, -1] 5 rfl (by omega) (by omega) u0.heap.size rfl _ rfl)
    go_wp2_with fail
    refine (unhide P).mono ?_
    rintro e u1 ⟨j, hj, rfl, hc, hg⟩
    generalize nAt [0, 64, 65535, 65536, -1] j = x1
    have AL := (Below.refl u0.heap.size u0).alloc (Nat.le_refl _) (.cells (([0, 64, 65535, 65536, -1] : List Int).map (Value.int .i64)).toArray 3)
    have On := hide (((unhide O).later AL).past hg (fun e => by have := ((unhide O).lt e).1; omega))
    have Bn := hide (below_of_new ((unhide B).trans (AL.mono (unhide B).size)) hg)
    clear O B C P
    have O := hide (unhide On)
    have B := hide (unhide Bn)
    have C := hide hc
    clear On Bn hc hg AL hj
    have P := hide (int_lit _ a len cap xs u1 (unhide C) [1, 65535, 65536] 3 rfl (by omega) (by omega) u1.heap.size rfl _ rfl)
    go_wp2_with fail
    refine (unhide P).mono ?_
    rintro e u2 ⟨j, hj, rfl, hc, hg⟩
    generalize nAt [1, 65535, 65536] j = x2
    have AL := (Below.refl u1.heap.size u1).alloc (Nat.le_refl _) (.cells (([1, 65535, 65536] : List Int).map (Value.int .i64)).toArray 3)
    have On := hide (((unhide O).later AL).past hg (fun e => by have := ((unhide O).lt e).1; omega))
    have Bn := hide (below_of_new ((unhide B).trans (AL.mono (unhide B).size)) hg)
    clear O B C P
    have O := hide (unhide On)
    have B := hide (unhide Bn)
    have C := hide hc
    clear On Bn hc hg AL hj
    have AL := (Below.refl u2.heap.size u2).alloc (Nat.le_refl _) (.cells #[.int .i64 x2] 3)
    have On := hide ((unhide O).later AL)
    have Bn := hide ((unhide B).trans (AL.mono (unhide B).size))
    have ON := hide (OwnN.base (own_one u2 x2) (B' := w.heap.size) (unhide B).size)
    clear AL
    go_wp2
    refine bodyPost_ret (results_tmp4 rfl _ _) rfl ?_
    exact ⟨⟨sa, sn, sc⟩, ⟨some ⟨u2.heap.size, 0, none⟩, 1, 1⟩, ni, [x2], x0, x1, rfl, (unhide On).base (by omega), unhide ON, by omega, by simp, unhide Bn⟩
end Go.Proofs.Ytfkmibgamkignaa

namespace Go.Proofs.Ytfkmibgamkignaa
open Go.ChangeShapes Go.WideShapes Go.ChangeAt Go.RowKit
set_option linter.unusedVariables false
set_option maxRecDepth 8000
set_option linter.unusedSimpArgs false

theorem Wd.set {ns : List Int} (h : Wd ns) (k : Nat) (v : Int) (h0 : 0 ≤ v) (h1 : v ≤ 65535) : Wd (ns.set k v) := fun x hx => by
  rcases List.mem_or_eq_of_mem_set hx with h' | h'
  · exact h x h'
  · omega
theorem wdB_of {ns : List Int} (h : Wd ns) : wdB ns = true := by
  unfold wdB
  rw [List.all_eq_true]
  intro x hx
  have := h x hx
  exact inB_t _ _ _ this
theorem Wd.of {ns : List Int} (h : wdB ns = true) : Wd ns := fun x hx => by
  unfold wdB at h
  rw [List.all_eq_true] at h
  exact inB_b (h x hx)
/-- A machine's lists are right. -/
structure Dk (d : Md) : Prop where
  ml : d.m.length = 256
  mw : Wd d.m
  rl : d.r.length = 8
  rw : Wd d.r
  il : d.i.length ≤ 50
  iw : Wd d.i
  ol : d.o.length ≤ 50
  ow : Wd d.o
theorem Dk.ok {d : Md} (h : Dk d) (st : Int) (h0 : 0 ≤ st) (h1 : st ≤ 2) : d.ok st = true := by
  unfold Md.ok
  rw [h.ml, h.rl, wdB_of h.mw, wdB_of h.rw, wdB_of h.iw, wdB_of h.ow, decide_eq_true (show (d.i.length : Int) ≤ 50 by have := h.il; omega), decide_eq_true (show (d.o.length : Int) ≤ 50 by have := h.ol; omega), inB_t st 0 2 ⟨h0, h1⟩]
  rfl
theorem Dk.setM {d : Md} (h : Dk d) (k : Nat) (v : Int) (h0 : 0 ≤ v) (h1 : v ≤ 65535) : Dk ⟨d.m.set k v, d.r, d.i, d.o⟩ := { h with ml := by simp [h.ml], mw := h.mw.set k v h0 h1 }
theorem Dk.setR {d : Md} (h : Dk d) (k : Nat) (v : Int) (h0 : 0 ≤ v) (h1 : v ≤ 65535) : Dk ⟨d.m, d.r.set k v, d.i, d.o⟩ := { h with rl := by simp [h.rl], rw := h.rw.set k v h0 h1 }
theorem Dk.small {d : Md} (h : Dk d) : d.small := ⟨by have := h.ml; omega, by have := h.rl; omega, by have := h.il; omega, by have := h.ol; omega⟩
theorem wd_z : Wd z256 := fun x hx => by
  unfold z256 at hx
  rw [List.mem_replicate] at hx
  omega
theorem Wd.over {ns im : List Int} (h : Wd ns) (k : Nat) (hi : Wd im) : Wd (over ns k im) := fun x hx => by
  unfold Go.Proofs.Ytfkmibgamkignaa.over at hx
  rcases List.mem_append.1 hx with h1 | h1
  · exact h x (List.mem_of_mem_take h1)
  · rcases List.mem_append.1 h1 with h2 | h2
    · exact hi x h2
    · exact h x (List.mem_of_mem_drop h2)
theorem wd_newR (st : Int) (h0 : 0 ≤ st) (h1 : st ≤ 65535) : Wd (newR st) := fun x hx => by
  unfold newR at hx
  simp at hx
  omega
theorem dk_new {ni nn : List Int} {k : Nat} {st : Int} (hk : k + ni.length ≤ 256) (hi : Wd ni) (hn : Wd nn) (ln : nn.length ≤ 50) (h0 : 0 ≤ st) (h1 : st ≤ 65535) : Dk ⟨over z256 k ni, newR st, nn, []⟩ :=
  ⟨by rw [over_len _ _ _ (by rw [z256_len]; omega), z256_len], wd_z.over k hi, rfl, wd_newR st h0 h1, ln, hn, Nat.zero_le _, fun x hx => by cases hx⟩

/-- The cursor, the answer's place, the machine and its lists, while draws go on. -/
structure Ed (w wr : World) (cb : Nat) (a : Option Addr) (len cap : Nat) (xs : List UInt8) (y : Mv) (g5 : Nat) (d : Md) : Prop where
  cur : Cur wr cb a len cap xs
  gr : w.grownBy wr (some cb)
  re : wr.heap[w.heap.size]? = some (.cells zMv.cs 28 (0, 0))
  r5 : wr.heap[g5]? = some (.cells y.cs 28 (0, 0))
  own : OwnM wr (w.heap.size + 1) y d
  l5 : w.heap.size < g5
  ne : ∀ b, y.at b → b ≠ g5
  lt : cb < w.heap.size
  cd : xs = [] ∨ ∀ ad, a = some ad → ad.block < w.heap.size
section
variable {w wr w' : World} {cb : Nat} {a : Option Addr} {len cap : Nat} {xs : List UInt8} {y : Mv} {g5 gm gr n c : Nat} {d : Md}
theorem Ed.draw (h : Ed w wr cb a len cap xs y g5 d) (hc : Cur w' cb a len cap xs) (hg : wr.grownBy w' (some cb)) : Ed w w' cb a len cap xs y g5 d :=
  { h with
    cur := hc
    gr := grownBy_trans h.gr hg
    re := row_gb h.re hg (fun b e => by cases e; have := h.lt; omega)
    r5 := row_gb h.r5 hg (fun b e => by cases e; have := h.lt; have := h.l5; omega)
    own := h.own.gb hg (fun b e hb => by cases e; have := h.lt; have := (h.own.lo hb).1; omega) }
theorem Ed.later (h : Ed w wr cb a len cap xs y g5 d) (hb : Below wr.heap.size wr w') : Ed w w' cb a len cap xs y g5 d := h.draw (h.cur.later hb) (grownBy_below hb)
theorem Ed.alloc (h : Ed w wr cb a len cap xs y g5 d) (o : Obj) : Ed w (wr.alloc o) cb a len cap xs y g5 d := h.later (below_new _ _)
theorem Ed.write (h : Ed w wr cb a len cap xs y g5 d) {b k : Nat} (hb : w.heap.size < b) (hb5 : b ≠ g5) {v : Value} {d' : Md} (ho : OwnM (wr.setCell ⟨b, k, none⟩ v) (w.heap.size + 1) y d') : Ed w (wr.setCell ⟨b, k, none⟩ v) cb a len cap xs y g5 d' :=
  { h with
    cur := h.cur.past (grownBy_set v) h.lt h.cd (fun g e => by cases e; omega)
    gr := grownBy_own h.gr (grownBy_set v) (fun g e => by cases e; omega)
    re := row_keep h.re (by omega)
    r5 := row_keep h.r5 (fun e => hb5 e.symm)
    own := ho }
theorem Ed.setM (h : Ed w wr cb a len cap xs y g5 d) (hm : y.m = ⟨some ⟨gm, 0, none⟩, n, c⟩) (k : Nat) (v : Int) (hk : k < d.m.length) : Ed w (wr.setCell ⟨gm, k, none⟩ (.int .i64 v)) cb a len cap xs y g5 ⟨d.m.set k v, d.r, d.i, d.o⟩ := by
  have e : y.m.v = .slice (some ⟨gm, 0, none⟩) n c := by rw [hm]; rfl
  have o := h.own.m
  rw [e] at o
  have s := o.set k v hk
  have hat : y.at gm := .inl (by rw [e]; rfl)
  have := h.own.lo hat
  exact h.write (by omega) (h.ne gm hat) (h.own.putM (by rw [e]; exact s.2) (by rw [e]; exact s.1))
theorem Ed.setR (h : Ed w wr cb a len cap xs y g5 d) (hm : y.r = ⟨some ⟨gr, 0, none⟩, n, c⟩) (k : Nat) (v : Int) (hk : k < d.r.length) : Ed w (wr.setCell ⟨gr, k, none⟩ (.int .i64 v)) cb a len cap xs y g5 ⟨d.m, d.r.set k v, d.i, d.o⟩ := by
  have e : y.r.v = .slice (some ⟨gr, 0, none⟩) n c := by rw [hm]; rfl
  have o := h.own.r
  rw [e] at o
  have s := o.set k v hk
  have hat : y.at gr := .inr (.inl (by rw [e]; rfl))
  have := h.own.lo hat
  exact h.write (by omega) (h.ne gr hat) (h.own.putR (by rw [e]; exact s.2) (by rw [e]; exact s.1))
/-- A field of the machine itself written, no list among them. -/
theorem Ed.setF (h : Ed w wr cb a len cap xs y g5 d) (j : Nat) (v : Value) (y' : Mv) (he : y.cs.setIfInBounds j v = y'.cs) (em : y'.m = y.m) (er : y'.r = y.r) (ei : y'.i = y.i) (eo : y'.o = y.o) : Ed w (wr.setCell ⟨g5, j, none⟩ v) cb a len cap xs y' g5 d := by
  have hat : ∀ b, y'.at b → y.at b := fun b hb => by unfold Mv.at at hb ⊢; rw [em, er, ei, eo] at hb; exact hb
  have o2 : OwnM (wr.setCell ⟨g5, j, none⟩ v) (w.heap.size + 1) y d := h.own.keepH fun b hb _ => Below.heap_setCell wr ⟨g5, j, none⟩ v b (h.ne b hb)
  refine { h with cur := h.cur.past (grownBy_set v) h.lt h.cd (fun g e => by cases e; have := h.l5; omega), gr := grownBy_own h.gr (grownBy_set v) (fun g e => by cases e; have := h.l5; omega), re := row_keep h.re (by have := h.l5; omega), r5 := row_put h.r5 j v y' he, own := ?_, ne := fun b hb => h.ne b (hat b hb) }
  obtain ⟨o1, o3, o4, o5, a1, a2, a3, a4, a5, a6⟩ := o2
  exact ⟨by rw [em]; exact o1, by rw [er]; exact o3, by rw [ei]; exact o4, by rw [eo]; exact o5, by rw [em, er]; exact a1, by rw [em, ei]; exact a2, by rw [em, eo]; exact a3, by rw [er, ei]; exact a4, by rw [er, eo]; exact a5, by rw [ei, eo]; exact a6⟩
theorem Ed.cellM (h : Ed w wr cb a len cap xs y g5 d) (hm : y.m = ⟨some ⟨gm, 0, none⟩, n, c⟩) (k : Nat) (hk : k < d.m.length) : wr.cell? ⟨gm, k, none⟩ = some (.int .i64 (nAt d.m k)) ∧ wr.frozen? ⟨gm, k, none⟩ = false := by
  have o := h.own.m
  rw [hm] at o
  exact OwnN.cellAt (b := gm) (n := n) (cap := c) o k hk
theorem Ed.cellR (h : Ed w wr cb a len cap xs y g5 d) (hm : y.r = ⟨some ⟨gr, 0, none⟩, n, c⟩) (k : Nat) (hk : k < d.r.length) : wr.cell? ⟨gr, k, none⟩ = some (.int .i64 (nAt d.r k)) ∧ wr.frozen? ⟨gr, k, none⟩ = false := by
  have o := h.own.r
  rw [hm] at o
  exact OwnN.cellAt (b := gr) (n := n) (cap := c) o k hk
end
end Go.Proofs.Ytfkmibgamkignaa
