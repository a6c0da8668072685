/- Contracts over this seat's translation, laid together; conditions stand as hypotheses of each. -/
import Derived.Test.YtjpbjbnialehbaaGreatDoorSsJ
namespace Go.Proofs.YtjpbjbnialehbaaGreatDoor
open Go.ChangeShapes Go.WideShapes Go.ChangeAt Go.RowKit
set_option maxHeartbeats 16000000
set_option linter.unusedVariables false
set_option maxRecDepth 8000
theorem encS_B (k : Nat) (sm sr sx dm dr dx n : Int) (w : World) (hok : Is.ok ⟨(k : Int), ⟨sm, sr, sx⟩, ⟨dm, dr, dx⟩, n⟩ = true) (h1 : 6 < (k : Int)) (h2 : (k : Int) ≤ 14) :
  Calls Tryz.prog 53 #[.agg #[.int .i64 (k : Int), .int .i64 sm, .int .i64 sr, .int .i64 sx, .int .i64 dm, .int .i64 dr, .int .i64 dx, .int .i64 n]] w fun e w' => ∃ v, e = .returned v ∧ v ≠ .slice none 0 0 ∧ OwnN w' w.heap.size v (Is.code ⟨(k : Int), ⟨sm, sr, sx⟩, ⟨dm, dr, dx⟩, n⟩ :: Is.xs ⟨(k : Int), ⟨sm, sr, sx⟩, ⟨dm, dr, dx⟩, n⟩) ∧ Below w.heap.size w w' := by
 obtain ⟨i0, hi, hz0, hz1, hz2⟩ := info_parts info3
 have HZ := hide (show (w.alloc (Obj.cells #[.int .i64 (k : Int), .int .i64 sm, .int .i64 sr, .int .i64 sx, .int .i64 dm, .int .i64 dr, .int .i64 dx, .int .i64 n] 69)).heap.size = w.heap.size + 1 by simp)
 have HCL := hide (box_cells w #[.int .i64 (k : Int), .int .i64 sm, .int .i64 sr, .int .i64 sx, .int .i64 dm, .int .i64 dr, .int .i64 dx, .int .i64 n] 69)
 have HB := hide (box_below w (Obj.cells #[.int .i64 (k : Int), .int .i64 sm, .int .i64 sr, .int .i64 sx, .int .i64 dm, .int .i64 dr, .int .i64 dx, .int .i64 n] 69))
 have Bz : Below (w.heap.size + 1) (w.alloc (Obj.cells #[.int .i64 (k : Int), .int .i64 sm, .int .i64 sr, .int .i64 sx, .int .i64 dm, .int .i64 dr, .int .i64 dx, .int .i64 n] 69)) (w.alloc (Obj.cells #[.int .i64 (k : Int), .int .i64 sm, .int .i64 sr, .int .i64 sx, .int .i64 dm, .int .i64 dr, .int .i64 dx, .int .i64 n] 69)) := Below.refl _ _
 obtain ⟨⟨q1, q2⟩, q3, q4, q5, q6, q7, q8, q9, q10, q11⟩ := is_ok hok
 simp only at q1 q2 q3 q4 q5 q6 q7 q8 q9 q10 q11
 have hbb := base_bd ⟨k, by omega⟩
 simp only at hbb
 obtain ⟨b, hbk⟩ : ∃ b, baseAt k = b := ⟨_, rfl⟩
 rw [hbk] at hbb
 obtain ⟨p, hp6⟩ : ∃ p, Od.six ⟨sm, sr, sx⟩ = p := ⟨_, rfl⟩
 obtain ⟨q, hq6⟩ : ∃ q, Od.six ⟨dm, dr, dx⟩ = q := ⟨_, rfl⟩
 obtain ⟨sX, hsX⟩ : ∃ q, Od.hasX ⟨sm, sr, sx⟩ = q := ⟨_, rfl⟩
 obtain ⟨dX, hdX⟩ : ∃ q, Od.hasX ⟨dm, dr, dx⟩ = q := ⟨_, rfl⟩
 have hD := (od_ok (q4 (by omega))).1
 simp only at hD
 have hqb : 0 ≤ q ∧ q ≤ 63 := by rw [← hq6]; unfold Od.six; simp only; omega
 have HCo := hide (show Is.code ⟨(k : Int), ⟨sm, sr, sx⟩, ⟨dm, dr, dx⟩, n⟩ = b + q by unfold Is.code; simp only [Int.toNat_natCast, hp6, hq6, hbk]; rw [if_neg (by omega)]; rw [if_pos (by omega)])
 have HXs := hide (show Is.xs ⟨(k : Int), ⟨sm, sr, sx⟩, ⟨dm, dr, dx⟩, n⟩ = (if dX = true then [dx] else []) by
  unfold Is.xs
  simp only [hsX, hdX]
  rw [if_neg (by omega), List.nil_append]
  have hk15 : (k : Int) ≤ 15 := by omega
  cases dX <;> simp [hk15])
 have hle : (k : Int) ≤ 14 := h2
 have hle15 : (k : Int) ≤ 15 := by omega
 have nd6 : decide ((k : Int) ≤ 6) = false := by simp; omega
 clear h1 h2
 clear q3 q4 q5 q6 q8 q9 q10 q11
 go_enter Tryz.func53, Tryz.ntmps53
 go_wp2_with fail
 refine (insOk_any ⟨(k : Int), ⟨sm, sr, sx⟩, ⟨dm, dr, dx⟩, n⟩ _).mono ?_
 rintro e w' ⟨rfl, hb⟩
 have Bz := box_step Bz (uh HZ) hb
 have a0 : w'.cell? ⟨w.heap.size, 0, none⟩ = some (.int .i64 (k : Int)) := uh HCL w' Bz 0 _ rfl
 have A0 : ∀ o, (w'.alloc o).cell? ⟨w.heap.size, 0, none⟩ = some (.int .i64 (k : Int)) := fun o => alloc_cell a0 o
 have a1 : w'.cell? ⟨w.heap.size, 1, none⟩ = some (.int .i64 sm) := uh HCL w' Bz 1 _ rfl
 have A1 : ∀ o, (w'.alloc o).cell? ⟨w.heap.size, 1, none⟩ = some (.int .i64 sm) := fun o => alloc_cell a1 o
 have a2 : w'.cell? ⟨w.heap.size, 2, none⟩ = some (.int .i64 sr) := uh HCL w' Bz 2 _ rfl
 have A2 : ∀ o, (w'.alloc o).cell? ⟨w.heap.size, 2, none⟩ = some (.int .i64 sr) := fun o => alloc_cell a2 o
 have a3 : w'.cell? ⟨w.heap.size, 3, none⟩ = some (.int .i64 sx) := uh HCL w' Bz 3 _ rfl
 have A3 : ∀ o, (w'.alloc o).cell? ⟨w.heap.size, 3, none⟩ = some (.int .i64 sx) := fun o => alloc_cell a3 o
 have a4 : w'.cell? ⟨w.heap.size, 4, none⟩ = some (.int .i64 dm) := uh HCL w' Bz 4 _ rfl
 have A4 : ∀ o, (w'.alloc o).cell? ⟨w.heap.size, 4, none⟩ = some (.int .i64 dm) := fun o => alloc_cell a4 o
 have a5 : w'.cell? ⟨w.heap.size, 5, none⟩ = some (.int .i64 dr) := uh HCL w' Bz 5 _ rfl
 have A5 : ∀ o, (w'.alloc o).cell? ⟨w.heap.size, 5, none⟩ = some (.int .i64 dr) := fun o => alloc_cell a5 o
 have a6 : w'.cell? ⟨w.heap.size, 6, none⟩ = some (.int .i64 dx) := uh HCL w' Bz 6 _ rfl
 have A6 : ∀ o, (w'.alloc o).cell? ⟨w.heap.size, 6, none⟩ = some (.int .i64 dx) := fun o => alloc_cell a6 o
 have a7 : w'.cell? ⟨w.heap.size, 7, none⟩ = some (.int .i64 n) := uh HCL w' Bz 7 _ rfl
 have A7 : ∀ o, (w'.alloc o).cell? ⟨w.heap.size, 7, none⟩ = some (.int .i64 n) := fun o => alloc_cell a7 o
 clear hb
 rw [hok]
 go_wp2_with fail
 refine (base_any k (by omega) _).mono ?_
 rintro e w' ⟨rfl, hb⟩
 have Bz := box_step Bz (uh HZ) hb
 have a0 : w'.cell? ⟨w.heap.size, 0, none⟩ = some (.int .i64 (k : Int)) := uh HCL w' Bz 0 _ rfl
 have A0 : ∀ o, (w'.alloc o).cell? ⟨w.heap.size, 0, none⟩ = some (.int .i64 (k : Int)) := fun o => alloc_cell a0 o
 have a1 : w'.cell? ⟨w.heap.size, 1, none⟩ = some (.int .i64 sm) := uh HCL w' Bz 1 _ rfl
 have A1 : ∀ o, (w'.alloc o).cell? ⟨w.heap.size, 1, none⟩ = some (.int .i64 sm) := fun o => alloc_cell a1 o
 have a2 : w'.cell? ⟨w.heap.size, 2, none⟩ = some (.int .i64 sr) := uh HCL w' Bz 2 _ rfl
 have A2 : ∀ o, (w'.alloc o).cell? ⟨w.heap.size, 2, none⟩ = some (.int .i64 sr) := fun o => alloc_cell a2 o
 have a3 : w'.cell? ⟨w.heap.size, 3, none⟩ = some (.int .i64 sx) := uh HCL w' Bz 3 _ rfl
 have A3 : ∀ o, (w'.alloc o).cell? ⟨w.heap.size, 3, none⟩ = some (.int .i64 sx) := fun o => alloc_cell a3 o
 have a4 : w'.cell? ⟨w.heap.size, 4, none⟩ = some (.int .i64 dm) := uh HCL w' Bz 4 _ rfl
 have A4 : ∀ o, (w'.alloc o).cell? ⟨w.heap.size, 4, none⟩ = some (.int .i64 dm) := fun o => alloc_cell a4 o
 have a5 : w'.cell? ⟨w.heap.size, 5, none⟩ = some (.int .i64 dr) := uh HCL w' Bz 5 _ rfl
 have A5 : ∀ o, (w'.alloc o).cell? ⟨w.heap.size, 5, none⟩ = some (.int .i64 dr) := fun o => alloc_cell a5 o
 have a6 : w'.cell? ⟨w.heap.size, 6, none⟩ = some (.int .i64 dx) := uh HCL w' Bz 6 _ rfl
 have A6 : ∀ o, (w'.alloc o).cell? ⟨w.heap.size, 6, none⟩ = some (.int .i64 dx) := fun o => alloc_cell a6 o
 have a7 : w'.cell? ⟨w.heap.size, 7, none⟩ = some (.int .i64 n) := uh HCL w' Bz 7 _ rfl
 have A7 : ∀ o, (w'.alloc o).cell? ⟨w.heap.size, 7, none⟩ = some (.int .i64 n) := fun o => alloc_cell a7 o
 clear hb
 rw [hbk]
 go_wp2_with fail
 refine (six_any ⟨dm, dr, dx⟩ (by simp only; omega) _).mono ?_
 rintro e w' ⟨rfl, hb⟩
 have Bz := box_step Bz (uh HZ) hb
 have a0 : w'.cell? ⟨w.heap.size, 0, none⟩ = some (.int .i64 (k : Int)) := uh HCL w' Bz 0 _ rfl
 have A0 : ∀ o, (w'.alloc o).cell? ⟨w.heap.size, 0, none⟩ = some (.int .i64 (k : Int)) := fun o => alloc_cell a0 o
 have a1 : w'.cell? ⟨w.heap.size, 1, none⟩ = some (.int .i64 sm) := uh HCL w' Bz 1 _ rfl
 have A1 : ∀ o, (w'.alloc o).cell? ⟨w.heap.size, 1, none⟩ = some (.int .i64 sm) := fun o => alloc_cell a1 o
 have a2 : w'.cell? ⟨w.heap.size, 2, none⟩ = some (.int .i64 sr) := uh HCL w' Bz 2 _ rfl
 have A2 : ∀ o, (w'.alloc o).cell? ⟨w.heap.size, 2, none⟩ = some (.int .i64 sr) := fun o => alloc_cell a2 o
 have a3 : w'.cell? ⟨w.heap.size, 3, none⟩ = some (.int .i64 sx) := uh HCL w' Bz 3 _ rfl
 have A3 : ∀ o, (w'.alloc o).cell? ⟨w.heap.size, 3, none⟩ = some (.int .i64 sx) := fun o => alloc_cell a3 o
 have a4 : w'.cell? ⟨w.heap.size, 4, none⟩ = some (.int .i64 dm) := uh HCL w' Bz 4 _ rfl
 have A4 : ∀ o, (w'.alloc o).cell? ⟨w.heap.size, 4, none⟩ = some (.int .i64 dm) := fun o => alloc_cell a4 o
 have a5 : w'.cell? ⟨w.heap.size, 5, none⟩ = some (.int .i64 dr) := uh HCL w' Bz 5 _ rfl
 have A5 : ∀ o, (w'.alloc o).cell? ⟨w.heap.size, 5, none⟩ = some (.int .i64 dr) := fun o => alloc_cell a5 o
 have a6 : w'.cell? ⟨w.heap.size, 6, none⟩ = some (.int .i64 dx) := uh HCL w' Bz 6 _ rfl
 have A6 : ∀ o, (w'.alloc o).cell? ⟨w.heap.size, 6, none⟩ = some (.int .i64 dx) := fun o => alloc_cell a6 o
 have a7 : w'.cell? ⟨w.heap.size, 7, none⟩ = some (.int .i64 n) := uh HCL w' Bz 7 _ rfl
 have A7 : ∀ o, (w'.alloc o).cell? ⟨w.heap.size, 7, none⟩ = some (.int .i64 n) := fun o => alloc_cell a7 o
 clear hb
 rw [hq6]
 have hsz := Bz.size
 rw [uh HZ] at hsz
 have OO := hide ((own_one w' (b + q)).base (show w.heap.size + 1 ≤ w'.heap.size by omega))
 have HN : (Value.slice (some ⟨w'.heap.size, 0, none⟩) 1 1) ≠ .slice none 0 0 := by simp
 have B0 := box_step Bz (uh HZ) ((Below.refl w'.heap.size w').alloc (Nat.le_refl _) (Obj.cells #[.int .i64 (b + q)] 3))
 go_wp2_with fail
 refine (hasX_any ⟨dm, dr, dx⟩ _).mono ?_
 rintro e w7 ⟨rfl, hb⟩
 have Bz := box_step B0 (uh HZ) hb
 have a0 : w7.cell? ⟨w.heap.size, 0, none⟩ = some (.int .i64 (k : Int)) := uh HCL w7 Bz 0 _ rfl
 have A0 : ∀ o, (w7.alloc o).cell? ⟨w.heap.size, 0, none⟩ = some (.int .i64 (k : Int)) := fun o => alloc_cell a0 o
 have a1 : w7.cell? ⟨w.heap.size, 1, none⟩ = some (.int .i64 sm) := uh HCL w7 Bz 1 _ rfl
 have A1 : ∀ o, (w7.alloc o).cell? ⟨w.heap.size, 1, none⟩ = some (.int .i64 sm) := fun o => alloc_cell a1 o
 have a2 : w7.cell? ⟨w.heap.size, 2, none⟩ = some (.int .i64 sr) := uh HCL w7 Bz 2 _ rfl
 have A2 : ∀ o, (w7.alloc o).cell? ⟨w.heap.size, 2, none⟩ = some (.int .i64 sr) := fun o => alloc_cell a2 o
 have a3 : w7.cell? ⟨w.heap.size, 3, none⟩ = some (.int .i64 sx) := uh HCL w7 Bz 3 _ rfl
 have A3 : ∀ o, (w7.alloc o).cell? ⟨w.heap.size, 3, none⟩ = some (.int .i64 sx) := fun o => alloc_cell a3 o
 have a4 : w7.cell? ⟨w.heap.size, 4, none⟩ = some (.int .i64 dm) := uh HCL w7 Bz 4 _ rfl
 have A4 : ∀ o, (w7.alloc o).cell? ⟨w.heap.size, 4, none⟩ = some (.int .i64 dm) := fun o => alloc_cell a4 o
 have a5 : w7.cell? ⟨w.heap.size, 5, none⟩ = some (.int .i64 dr) := uh HCL w7 Bz 5 _ rfl
 have A5 : ∀ o, (w7.alloc o).cell? ⟨w.heap.size, 5, none⟩ = some (.int .i64 dr) := fun o => alloc_cell a5 o
 have a6 : w7.cell? ⟨w.heap.size, 6, none⟩ = some (.int .i64 dx) := uh HCL w7 Bz 6 _ rfl
 have A6 : ∀ o, (w7.alloc o).cell? ⟨w.heap.size, 6, none⟩ = some (.int .i64 dx) := fun o => alloc_cell a6 o
 have a7 : w7.cell? ⟨w.heap.size, 7, none⟩ = some (.int .i64 n) := uh HCL w7 Bz 7 _ rfl
 have A7 : ∀ o, (w7.alloc o).cell? ⟨w.heap.size, 7, none⟩ = some (.int .i64 n) := fun o => alloc_cell a7 o
 have OO := hide ((uh OO).later hb)
 clear hb B0
 rw [hdX]
 cases dX
 ·
  go_wp2
  go_ret
  exact ⟨(.slice (some ⟨w'.heap.size, 0, none⟩) 1 1), rfl, HN, by rw [uh HCo, uh HXs]; exact (uh OO).base (by omega), uh HB _ Bz⟩
 ·
  have K1 := hide (cell_one_new w7 (Value.int .i64 (dx)) 3)
  have szc := Bz.size
  rw [uh HZ] at szc
  go_wp2_with (at_builtin; go_must (refine wpList_append_own _ rfl (.tmp 94) (.tmp 98) 24 rfl (w.heap.size + 1) 3 i0 (.int .i64 0) 1 8 Tryz.underlying24 hi hz0 hz1 hz2 rfl (by decide) (.slice (some ⟨w'.heap.size, 0, none⟩) 1 1) 1 (cellsN [b + q]) rfl ((uh OO).alloc _) ⟨w7.heap.size, 0, none⟩ 1 1 (cellsN [dx]) rfl rfl (uh K1) (cellsN_one _) (by unfold maxLen; omega) (by omega) (by simp; omega) ?_; intro v8 w8 hown hgrow hnil; have Bz := box_app Bz (uh HZ) _ hgrow (uh OO) (Nat.le_refl _); have a0 : w8.cell? ⟨w.heap.size, 0, none⟩ = some (.int .i64 (k : Int)) := uh HCL w8 Bz 0 _ rfl; have A0 : ∀ o, (w8.alloc o).cell? ⟨w.heap.size, 0, none⟩ = some (.int .i64 (k : Int)) := fun o => alloc_cell a0 o; have a1 : w8.cell? ⟨w.heap.size, 1, none⟩ = some (.int .i64 sm) := uh HCL w8 Bz 1 _ rfl; have A1 : ∀ o, (w8.alloc o).cell? ⟨w.heap.size, 1, none⟩ = some (.int .i64 sm) := fun o => alloc_cell a1 o; have a2 : w8.cell? ⟨w.heap.size, 2, none⟩ = some (.int .i64 sr) := uh HCL w8 Bz 2 _ rfl; have A2 : ∀ o, (w8.alloc o).cell? ⟨w.heap.size, 2, none⟩ = some (.int .i64 sr) := fun o => alloc_cell a2 o; have a3 : w8.cell? ⟨w.heap.size, 3, none⟩ = some (.int .i64 sx) := uh HCL w8 Bz 3 _ rfl; have A3 : ∀ o, (w8.alloc o).cell? ⟨w.heap.size, 3, none⟩ = some (.int .i64 sx) := fun o => alloc_cell a3 o; have a4 : w8.cell? ⟨w.heap.size, 4, none⟩ = some (.int .i64 dm) := uh HCL w8 Bz 4 _ rfl; have A4 : ∀ o, (w8.alloc o).cell? ⟨w.heap.size, 4, none⟩ = some (.int .i64 dm) := fun o => alloc_cell a4 o; have a5 : w8.cell? ⟨w.heap.size, 5, none⟩ = some (.int .i64 dr) := uh HCL w8 Bz 5 _ rfl; have A5 : ∀ o, (w8.alloc o).cell? ⟨w.heap.size, 5, none⟩ = some (.int .i64 dr) := fun o => alloc_cell a5 o; have a6 : w8.cell? ⟨w.heap.size, 6, none⟩ = some (.int .i64 dx) := uh HCL w8 Bz 6 _ rfl; have A6 : ∀ o, (w8.alloc o).cell? ⟨w.heap.size, 6, none⟩ = some (.int .i64 dx) := fun o => alloc_cell a6 o; have a7 : w8.cell? ⟨w.heap.size, 7, none⟩ = some (.int .i64 n) := uh HCL w8 Bz 7 _ rfl; have A7 : ∀ o, (w8.alloc o).cell? ⟨w.heap.size, 7, none⟩ = some (.int .i64 n) := fun o => alloc_cell a7 o))
  have HN : v8 ≠ .slice none 0 0 := fun e => by have := hnil.1 e; omega
  have OO := hide (show OwnN w8 (w.heap.size + 1) v8 [b + q, dx] from hown)
  clear hown hgrow hnil K1
  go_wp2
  go_ret
  exact ⟨v8, rfl, HN, by rw [uh HCo, uh HXs]; exact (uh OO).base (by omega), uh HB _ Bz⟩
theorem encS_C (k : Nat) (sm sr sx dm dr dx n : Int) (w : World) (hok : Is.ok ⟨(k : Int), ⟨sm, sr, sx⟩, ⟨dm, dr, dx⟩, n⟩ = true) (h1 : (k : Int) = 15) :
  Calls Tryz.prog 53 #[.agg #[.int .i64 (k : Int), .int .i64 sm, .int .i64 sr, .int .i64 sx, .int .i64 dm, .int .i64 dr, .int .i64 dx, .int .i64 n]] w fun e w' => ∃ v, e = .returned v ∧ v ≠ .slice none 0 0 ∧ OwnN w' w.heap.size v (Is.code ⟨(k : Int), ⟨sm, sr, sx⟩, ⟨dm, dr, dx⟩, n⟩ :: Is.xs ⟨(k : Int), ⟨sm, sr, sx⟩, ⟨dm, dr, dx⟩, n⟩) ∧ Below w.heap.size w w' := by
 obtain ⟨i0, hi, hz0, hz1, hz2⟩ := info_parts info3
 have HZ := hide (show (w.alloc (Obj.cells #[.int .i64 (k : Int), .int .i64 sm, .int .i64 sr, .int .i64 sx, .int .i64 dm, .int .i64 dr, .int .i64 dx, .int .i64 n] 69)).heap.size = w.heap.size + 1 by simp)
 have HCL := hide (box_cells w #[.int .i64 (k : Int), .int .i64 sm, .int .i64 sr, .int .i64 sx, .int .i64 dm, .int .i64 dr, .int .i64 dx, .int .i64 n] 69)
 have HB := hide (box_below w (Obj.cells #[.int .i64 (k : Int), .int .i64 sm, .int .i64 sr, .int .i64 sx, .int .i64 dm, .int .i64 dr, .int .i64 dx, .int .i64 n] 69))
 have Bz : Below (w.heap.size + 1) (w.alloc (Obj.cells #[.int .i64 (k : Int), .int .i64 sm, .int .i64 sr, .int .i64 sx, .int .i64 dm, .int .i64 dr, .int .i64 dx, .int .i64 n] 69)) (w.alloc (Obj.cells #[.int .i64 (k : Int), .int .i64 sm, .int .i64 sr, .int .i64 sx, .int .i64 dm, .int .i64 dr, .int .i64 dx, .int .i64 n] 69)) := Below.refl _ _
 obtain ⟨⟨q1, q2⟩, q3, q4, q5, q6, q7, q8, q9, q10, q11⟩ := is_ok hok
 simp only at q1 q2 q3 q4 q5 q6 q7 q8 q9 q10 q11
 have hbb := base_bd ⟨k, by omega⟩
 simp only at hbb
 obtain ⟨b, hbk⟩ : ∃ b, baseAt k = b := ⟨_, rfl⟩
 rw [hbk] at hbb
 obtain ⟨p, hp6⟩ : ∃ p, Od.six ⟨sm, sr, sx⟩ = p := ⟨_, rfl⟩
 obtain ⟨q, hq6⟩ : ∃ q, Od.six ⟨dm, dr, dx⟩ = q := ⟨_, rfl⟩
 obtain ⟨sX, hsX⟩ : ∃ q, Od.hasX ⟨sm, sr, sx⟩ = q := ⟨_, rfl⟩
 obtain ⟨dX, hdX⟩ : ∃ q, Od.hasX ⟨dm, dr, dx⟩ = q := ⟨_, rfl⟩
 have hD := (od_ok (q4 (by omega))).1
 simp only at hD
 have hqb : 0 ≤ q ∧ q ≤ 63 := by rw [← hq6]; unfold Od.six; simp only; omega
 have HCo := hide (show Is.code ⟨(k : Int), ⟨sm, sr, sx⟩, ⟨dm, dr, dx⟩, n⟩ = b + n * 64 + q by unfold Is.code; simp only [Int.toNat_natCast, hp6, hq6, hbk]; rw [if_neg (by omega)]; rw [if_neg (by omega)]; rw [if_pos (by omega)])
 have HXs := hide (show Is.xs ⟨(k : Int), ⟨sm, sr, sx⟩, ⟨dm, dr, dx⟩, n⟩ = (if dX = true then [dx] else []) by
  unfold Is.xs
  simp only [hsX, hdX]
  rw [if_neg (by omega), List.nil_append]
  have hk15 : (k : Int) ≤ 15 := by omega
  cases dX <;> simp [hk15])
 have hle : ((k : Int) == 15) = true := by simp; omega
 have hle15 : (k : Int) ≤ 15 := by omega
 have hnb := q9 (by omega)
 have nd6 : decide ((k : Int) ≤ 6) = false := by simp; omega
 have nd14 : decide ((k : Int) ≤ 14) = false := by simp; omega
 clear h1
 clear q3 q4 q5 q6 q8 q9 q10 q11
 go_enter Tryz.func53, Tryz.ntmps53
 go_wp2_with fail
 refine (insOk_any ⟨(k : Int), ⟨sm, sr, sx⟩, ⟨dm, dr, dx⟩, n⟩ _).mono ?_
 rintro e w' ⟨rfl, hb⟩
 have Bz := box_step Bz (uh HZ) hb
 have a0 : w'.cell? ⟨w.heap.size, 0, none⟩ = some (.int .i64 (k : Int)) := uh HCL w' Bz 0 _ rfl
 have A0 : ∀ o, (w'.alloc o).cell? ⟨w.heap.size, 0, none⟩ = some (.int .i64 (k : Int)) := fun o => alloc_cell a0 o
 have a1 : w'.cell? ⟨w.heap.size, 1, none⟩ = some (.int .i64 sm) := uh HCL w' Bz 1 _ rfl
 have A1 : ∀ o, (w'.alloc o).cell? ⟨w.heap.size, 1, none⟩ = some (.int .i64 sm) := fun o => alloc_cell a1 o
 have a2 : w'.cell? ⟨w.heap.size, 2, none⟩ = some (.int .i64 sr) := uh HCL w' Bz 2 _ rfl
 have A2 : ∀ o, (w'.alloc o).cell? ⟨w.heap.size, 2, none⟩ = some (.int .i64 sr) := fun o => alloc_cell a2 o
 have a3 : w'.cell? ⟨w.heap.size, 3, none⟩ = some (.int .i64 sx) := uh HCL w' Bz 3 _ rfl
 have A3 : ∀ o, (w'.alloc o).cell? ⟨w.heap.size, 3, none⟩ = some (.int .i64 sx) := fun o => alloc_cell a3 o
 have a4 : w'.cell? ⟨w.heap.size, 4, none⟩ = some (.int .i64 dm) := uh HCL w' Bz 4 _ rfl
 have A4 : ∀ o, (w'.alloc o).cell? ⟨w.heap.size, 4, none⟩ = some (.int .i64 dm) := fun o => alloc_cell a4 o
 have a5 : w'.cell? ⟨w.heap.size, 5, none⟩ = some (.int .i64 dr) := uh HCL w' Bz 5 _ rfl
 have A5 : ∀ o, (w'.alloc o).cell? ⟨w.heap.size, 5, none⟩ = some (.int .i64 dr) := fun o => alloc_cell a5 o
 have a6 : w'.cell? ⟨w.heap.size, 6, none⟩ = some (.int .i64 dx) := uh HCL w' Bz 6 _ rfl
 have A6 : ∀ o, (w'.alloc o).cell? ⟨w.heap.size, 6, none⟩ = some (.int .i64 dx) := fun o => alloc_cell a6 o
 have a7 : w'.cell? ⟨w.heap.size, 7, none⟩ = some (.int .i64 n) := uh HCL w' Bz 7 _ rfl
 have A7 : ∀ o, (w'.alloc o).cell? ⟨w.heap.size, 7, none⟩ = some (.int .i64 n) := fun o => alloc_cell a7 o
 clear hb
 rw [hok]
 go_wp2_with fail
 refine (base_any k (by omega) _).mono ?_
 rintro e w' ⟨rfl, hb⟩
 have Bz := box_step Bz (uh HZ) hb
 have a0 : w'.cell? ⟨w.heap.size, 0, none⟩ = some (.int .i64 (k : Int)) := uh HCL w' Bz 0 _ rfl
 have A0 : ∀ o, (w'.alloc o).cell? ⟨w.heap.size, 0, none⟩ = some (.int .i64 (k : Int)) := fun o => alloc_cell a0 o
 have a1 : w'.cell? ⟨w.heap.size, 1, none⟩ = some (.int .i64 sm) := uh HCL w' Bz 1 _ rfl
 have A1 : ∀ o, (w'.alloc o).cell? ⟨w.heap.size, 1, none⟩ = some (.int .i64 sm) := fun o => alloc_cell a1 o
 have a2 : w'.cell? ⟨w.heap.size, 2, none⟩ = some (.int .i64 sr) := uh HCL w' Bz 2 _ rfl
 have A2 : ∀ o, (w'.alloc o).cell? ⟨w.heap.size, 2, none⟩ = some (.int .i64 sr) := fun o => alloc_cell a2 o
 have a3 : w'.cell? ⟨w.heap.size, 3, none⟩ = some (.int .i64 sx) := uh HCL w' Bz 3 _ rfl
 have A3 : ∀ o, (w'.alloc o).cell? ⟨w.heap.size, 3, none⟩ = some (.int .i64 sx) := fun o => alloc_cell a3 o
 have a4 : w'.cell? ⟨w.heap.size, 4, none⟩ = some (.int .i64 dm) := uh HCL w' Bz 4 _ rfl
 have A4 : ∀ o, (w'.alloc o).cell? ⟨w.heap.size, 4, none⟩ = some (.int .i64 dm) := fun o => alloc_cell a4 o
 have a5 : w'.cell? ⟨w.heap.size, 5, none⟩ = some (.int .i64 dr) := uh HCL w' Bz 5 _ rfl
 have A5 : ∀ o, (w'.alloc o).cell? ⟨w.heap.size, 5, none⟩ = some (.int .i64 dr) := fun o => alloc_cell a5 o
 have a6 : w'.cell? ⟨w.heap.size, 6, none⟩ = some (.int .i64 dx) := uh HCL w' Bz 6 _ rfl
 have A6 : ∀ o, (w'.alloc o).cell? ⟨w.heap.size, 6, none⟩ = some (.int .i64 dx) := fun o => alloc_cell a6 o
 have a7 : w'.cell? ⟨w.heap.size, 7, none⟩ = some (.int .i64 n) := uh HCL w' Bz 7 _ rfl
 have A7 : ∀ o, (w'.alloc o).cell? ⟨w.heap.size, 7, none⟩ = some (.int .i64 n) := fun o => alloc_cell a7 o
 clear hb
 rw [hbk]
 go_wp2
 go_region_with (go_at_call 98; refine (six_any ⟨_, _, _⟩ (by simp only; omega) _).mono ?_; rintro e w' ⟨rfl, hb⟩; (first | have Bz := box_step Bz (uh HZ) hb | have Bz := box_stepd Bz (uh HZ) hb); have a0 : w'.cell? ⟨w.heap.size, 0, none⟩ = some (.int .i64 (k : Int)) := uh HCL w' Bz 0 _ rfl; have A0 : ∀ o, (w'.alloc o).cell? ⟨w.heap.size, 0, none⟩ = some (.int .i64 (k : Int)) := fun o => alloc_cell a0 o; have a1 : w'.cell? ⟨w.heap.size, 1, none⟩ = some (.int .i64 sm) := uh HCL w' Bz 1 _ rfl; have A1 : ∀ o, (w'.alloc o).cell? ⟨w.heap.size, 1, none⟩ = some (.int .i64 sm) := fun o => alloc_cell a1 o; have a2 : w'.cell? ⟨w.heap.size, 2, none⟩ = some (.int .i64 sr) := uh HCL w' Bz 2 _ rfl; have A2 : ∀ o, (w'.alloc o).cell? ⟨w.heap.size, 2, none⟩ = some (.int .i64 sr) := fun o => alloc_cell a2 o; have a3 : w'.cell? ⟨w.heap.size, 3, none⟩ = some (.int .i64 sx) := uh HCL w' Bz 3 _ rfl; have A3 : ∀ o, (w'.alloc o).cell? ⟨w.heap.size, 3, none⟩ = some (.int .i64 sx) := fun o => alloc_cell a3 o; have a4 : w'.cell? ⟨w.heap.size, 4, none⟩ = some (.int .i64 dm) := uh HCL w' Bz 4 _ rfl; have A4 : ∀ o, (w'.alloc o).cell? ⟨w.heap.size, 4, none⟩ = some (.int .i64 dm) := fun o => alloc_cell a4 o; have a5 : w'.cell? ⟨w.heap.size, 5, none⟩ = some (.int .i64 dr) := uh HCL w' Bz 5 _ rfl; have A5 : ∀ o, (w'.alloc o).cell? ⟨w.heap.size, 5, none⟩ = some (.int .i64 dr) := fun o => alloc_cell a5 o; have a6 : w'.cell? ⟨w.heap.size, 6, none⟩ = some (.int .i64 dx) := uh HCL w' Bz 6 _ rfl; have A6 : ∀ o, (w'.alloc o).cell? ⟨w.heap.size, 6, none⟩ = some (.int .i64 dx) := fun o => alloc_cell a6 o; have a7 : w'.cell? ⟨w.heap.size, 7, none⟩ = some (.int .i64 n) := uh HCL w' Bz 7 _ rfl; have A7 : ∀ o, (w'.alloc o).cell? ⟨w.heap.size, 7, none⟩ = some (.int .i64 n) := fun o => alloc_cell a7 o; clear hb)
 all_goals
  have hsz := Bz.size
  rw [uh HZ] at hsz
  have OO := hide ((own_one w' (b + n * 64 + q)).base (show w.heap.size + 1 ≤ w'.heap.size by omega))
  have HN : (Value.slice (some ⟨w'.heap.size, 0, none⟩) 1 1) ≠ .slice none 0 0 := by simp
  have B0 := box_step Bz (uh HZ) ((Below.refl w'.heap.size w').alloc (Nat.le_refl _) (Obj.cells #[.int .i64 (b + n * 64 + q)] 3))
  go_wp2_with fail
  refine (hasX_any ⟨dm, dr, dx⟩ _).mono ?_
  rintro e w7 ⟨rfl, hb⟩
  have Bz := box_step B0 (uh HZ) hb
  have a0 : w7.cell? ⟨w.heap.size, 0, none⟩ = some (.int .i64 (k : Int)) := uh HCL w7 Bz 0 _ rfl
  have A0 : ∀ o, (w7.alloc o).cell? ⟨w.heap.size, 0, none⟩ = some (.int .i64 (k : Int)) := fun o => alloc_cell a0 o
  have a1 : w7.cell? ⟨w.heap.size, 1, none⟩ = some (.int .i64 sm) := uh HCL w7 Bz 1 _ rfl
  have A1 : ∀ o, (w7.alloc o).cell? ⟨w.heap.size, 1, none⟩ = some (.int .i64 sm) := fun o => alloc_cell a1 o
  have a2 : w7.cell? ⟨w.heap.size, 2, none⟩ = some (.int .i64 sr) := uh HCL w7 Bz 2 _ rfl
  have A2 : ∀ o, (w7.alloc o).cell? ⟨w.heap.size, 2, none⟩ = some (.int .i64 sr) := fun o => alloc_cell a2 o
  have a3 : w7.cell? ⟨w.heap.size, 3, none⟩ = some (.int .i64 sx) := uh HCL w7 Bz 3 _ rfl
  have A3 : ∀ o, (w7.alloc o).cell? ⟨w.heap.size, 3, none⟩ = some (.int .i64 sx) := fun o => alloc_cell a3 o
  have a4 : w7.cell? ⟨w.heap.size, 4, none⟩ = some (.int .i64 dm) := uh HCL w7 Bz 4 _ rfl
  have A4 : ∀ o, (w7.alloc o).cell? ⟨w.heap.size, 4, none⟩ = some (.int .i64 dm) := fun o => alloc_cell a4 o
  have a5 : w7.cell? ⟨w.heap.size, 5, none⟩ = some (.int .i64 dr) := uh HCL w7 Bz 5 _ rfl
  have A5 : ∀ o, (w7.alloc o).cell? ⟨w.heap.size, 5, none⟩ = some (.int .i64 dr) := fun o => alloc_cell a5 o
  have a6 : w7.cell? ⟨w.heap.size, 6, none⟩ = some (.int .i64 dx) := uh HCL w7 Bz 6 _ rfl
  have A6 : ∀ o, (w7.alloc o).cell? ⟨w.heap.size, 6, none⟩ = some (.int .i64 dx) := fun o => alloc_cell a6 o
  have a7 : w7.cell? ⟨w.heap.size, 7, none⟩ = some (.int .i64 n) := uh HCL w7 Bz 7 _ rfl
  have A7 : ∀ o, (w7.alloc o).cell? ⟨w.heap.size, 7, none⟩ = some (.int .i64 n) := fun o => alloc_cell a7 o
  have OO := hide ((uh OO).later hb)
  clear hb B0
  rw [hdX]
  cases dX
  ·
   go_wp2
   go_ret
   exact ⟨(.slice (some ⟨w'.heap.size, 0, none⟩) 1 1), rfl, HN, by rw [uh HCo, uh HXs]; exact (uh OO).base (by omega), uh HB _ Bz⟩
  ·
   have K1 := hide (cell_one_new w7 (Value.int .i64 (dx)) 3)
   have szc := Bz.size
   rw [uh HZ] at szc
   go_wp2_with (at_builtin; go_must (refine wpList_append_own _ rfl (.tmp 94) (.tmp 98) 24 rfl (w.heap.size + 1) 3 i0 (.int .i64 0) 1 8 Tryz.underlying24 hi hz0 hz1 hz2 rfl (by decide) (.slice (some ⟨w'.heap.size, 0, none⟩) 1 1) 1 (cellsN [b + n * 64 + q]) rfl ((uh OO).alloc _) ⟨w7.heap.size, 0, none⟩ 1 1 (cellsN [dx]) rfl rfl (uh K1) (cellsN_one _) (by unfold maxLen; omega) (by omega) (by simp; omega) ?_; intro v8 w8 hown hgrow hnil; have Bz := box_app Bz (uh HZ) _ hgrow (uh OO) (Nat.le_refl _); have a0 : w8.cell? ⟨w.heap.size, 0, none⟩ = some (.int .i64 (k : Int)) := uh HCL w8 Bz 0 _ rfl; have A0 : ∀ o, (w8.alloc o).cell? ⟨w.heap.size, 0, none⟩ = some (.int .i64 (k : Int)) := fun o => alloc_cell a0 o; have a1 : w8.cell? ⟨w.heap.size, 1, none⟩ = some (.int .i64 sm) := uh HCL w8 Bz 1 _ rfl; have A1 : ∀ o, (w8.alloc o).cell? ⟨w.heap.size, 1, none⟩ = some (.int .i64 sm) := fun o => alloc_cell a1 o; have a2 : w8.cell? ⟨w.heap.size, 2, none⟩ = some (.int .i64 sr) := uh HCL w8 Bz 2 _ rfl; have A2 : ∀ o, (w8.alloc o).cell? ⟨w.heap.size, 2, none⟩ = some (.int .i64 sr) := fun o => alloc_cell a2 o; have a3 : w8.cell? ⟨w.heap.size, 3, none⟩ = some (.int .i64 sx) := uh HCL w8 Bz 3 _ rfl; have A3 : ∀ o, (w8.alloc o).cell? ⟨w.heap.size, 3, none⟩ = some (.int .i64 sx) := fun o => alloc_cell a3 o; have a4 : w8.cell? ⟨w.heap.size, 4, none⟩ = some (.int .i64 dm) := uh HCL w8 Bz 4 _ rfl; have A4 : ∀ o, (w8.alloc o).cell? ⟨w.heap.size, 4, none⟩ = some (.int .i64 dm) := fun o => alloc_cell a4 o; have a5 : w8.cell? ⟨w.heap.size, 5, none⟩ = some (.int .i64 dr) := uh HCL w8 Bz 5 _ rfl; have A5 : ∀ o, (w8.alloc o).cell? ⟨w.heap.size, 5, none⟩ = some (.int .i64 dr) := fun o => alloc_cell a5 o; have a6 : w8.cell? ⟨w.heap.size, 6, none⟩ = some (.int .i64 dx) := uh HCL w8 Bz 6 _ rfl; have A6 : ∀ o, (w8.alloc o).cell? ⟨w.heap.size, 6, none⟩ = some (.int .i64 dx) := fun o => alloc_cell a6 o; have a7 : w8.cell? ⟨w.heap.size, 7, none⟩ = some (.int .i64 n) := uh HCL w8 Bz 7 _ rfl; have A7 : ∀ o, (w8.alloc o).cell? ⟨w.heap.size, 7, none⟩ = some (.int .i64 n) := fun o => alloc_cell a7 o))
   have HN : v8 ≠ .slice none 0 0 := fun e => by have := hnil.1 e; omega
   have OO := hide (show OwnN w8 (w.heap.size + 1) v8 [b + n * 64 + q, dx] from hown)
   clear hown hgrow hnil K1
   go_wp2
   go_ret
   exact ⟨v8, rfl, HN, by rw [uh HCo, uh HXs]; exact (uh OO).base (by omega), uh HB _ Bz⟩
theorem encS_D (k : Nat) (sm sr sx dm dr dx n : Int) (w : World) (hok : Is.ok ⟨(k : Int), ⟨sm, sr, sx⟩, ⟨dm, dr, dx⟩, n⟩ = true) (h1 : (k : Int) = 16) :
  Calls Tryz.prog 53 #[.agg #[.int .i64 (k : Int), .int .i64 sm, .int .i64 sr, .int .i64 sx, .int .i64 dm, .int .i64 dr, .int .i64 dx, .int .i64 n]] w fun e w' => ∃ v, e = .returned v ∧ v ≠ .slice none 0 0 ∧ OwnN w' w.heap.size v (Is.code ⟨(k : Int), ⟨sm, sr, sx⟩, ⟨dm, dr, dx⟩, n⟩ :: Is.xs ⟨(k : Int), ⟨sm, sr, sx⟩, ⟨dm, dr, dx⟩, n⟩) ∧ Below w.heap.size w w' := by
 obtain ⟨i0, hi, hz0, hz1, hz2⟩ := info_parts info3
 have HZ := hide (show (w.alloc (Obj.cells #[.int .i64 (k : Int), .int .i64 sm, .int .i64 sr, .int .i64 sx, .int .i64 dm, .int .i64 dr, .int .i64 dx, .int .i64 n] 69)).heap.size = w.heap.size + 1 by simp)
 have HCL := hide (box_cells w #[.int .i64 (k : Int), .int .i64 sm, .int .i64 sr, .int .i64 sx, .int .i64 dm, .int .i64 dr, .int .i64 dx, .int .i64 n] 69)
 have HB := hide (box_below w (Obj.cells #[.int .i64 (k : Int), .int .i64 sm, .int .i64 sr, .int .i64 sx, .int .i64 dm, .int .i64 dr, .int .i64 dx, .int .i64 n] 69))
 have Bz : Below (w.heap.size + 1) (w.alloc (Obj.cells #[.int .i64 (k : Int), .int .i64 sm, .int .i64 sr, .int .i64 sx, .int .i64 dm, .int .i64 dr, .int .i64 dx, .int .i64 n] 69)) (w.alloc (Obj.cells #[.int .i64 (k : Int), .int .i64 sm, .int .i64 sr, .int .i64 sx, .int .i64 dm, .int .i64 dr, .int .i64 dx, .int .i64 n] 69)) := Below.refl _ _
 obtain ⟨⟨q1, q2⟩, q3, q4, q5, q6, q7, q8, q9, q10, q11⟩ := is_ok hok
 simp only at q1 q2 q3 q4 q5 q6 q7 q8 q9 q10 q11
 have hbb := base_bd ⟨k, by omega⟩
 simp only at hbb
 obtain ⟨b, hbk⟩ : ∃ b, baseAt k = b := ⟨_, rfl⟩
 rw [hbk] at hbb
 obtain ⟨p, hp6⟩ : ∃ p, Od.six ⟨sm, sr, sx⟩ = p := ⟨_, rfl⟩
 obtain ⟨q, hq6⟩ : ∃ q, Od.six ⟨dm, dr, dx⟩ = q := ⟨_, rfl⟩
 obtain ⟨sX, hsX⟩ : ∃ q, Od.hasX ⟨sm, sr, sx⟩ = q := ⟨_, rfl⟩
 obtain ⟨dX, hdX⟩ : ∃ q, Od.hasX ⟨dm, dr, dx⟩ = q := ⟨_, rfl⟩
 have hnb : 0 ≤ n ∧ n ≤ 255 := by have := q9 (by omega); omega
 have HCo := hide (show Is.code ⟨(k : Int), ⟨sm, sr, sx⟩, ⟨dm, dr, dx⟩, n⟩ = b + n by unfold Is.code; simp only [Int.toNat_natCast, hp6, hq6, hbk]; rw [if_neg (by omega)]; rw [if_neg (by omega)]; rw [if_neg (by omega)]; rw [if_pos (by omega)])
 have HXs := hide (show Is.xs ⟨(k : Int), ⟨sm, sr, sx⟩, ⟨dm, dr, dx⟩, n⟩ = ([] : List Int) by unfold Is.xs; simp only; rw [if_neg (by omega), if_neg (by omega)]; rfl)
 have nd6 : decide ((k : Int) ≤ 6) = false := by simp; omega
 have nd14 : decide ((k : Int) ≤ 14) = false := by simp; omega
 have nd15 : decide ((k : Int) ≤ 15) = false := by simp; omega
 have ne15 : ((k : Int) == 15) = false := beq_eq_false_iff_ne.2 (by omega)
 have h16 : ((k : Int) == 16) = true := by simp; omega
 clear h1
 clear q3 q4 q5 q6 q8 q9 q10 q11
 go_enter Tryz.func53, Tryz.ntmps53
 go_wp2_with fail
 refine (insOk_any ⟨(k : Int), ⟨sm, sr, sx⟩, ⟨dm, dr, dx⟩, n⟩ _).mono ?_
 rintro e w' ⟨rfl, hb⟩
 have Bz := box_step Bz (uh HZ) hb
 have a0 : w'.cell? ⟨w.heap.size, 0, none⟩ = some (.int .i64 (k : Int)) := uh HCL w' Bz 0 _ rfl
 have A0 : ∀ o, (w'.alloc o).cell? ⟨w.heap.size, 0, none⟩ = some (.int .i64 (k : Int)) := fun o => alloc_cell a0 o
 have a1 : w'.cell? ⟨w.heap.size, 1, none⟩ = some (.int .i64 sm) := uh HCL w' Bz 1 _ rfl
 have A1 : ∀ o, (w'.alloc o).cell? ⟨w.heap.size, 1, none⟩ = some (.int .i64 sm) := fun o => alloc_cell a1 o
 have a2 : w'.cell? ⟨w.heap.size, 2, none⟩ = some (.int .i64 sr) := uh HCL w' Bz 2 _ rfl
 have A2 : ∀ o, (w'.alloc o).cell? ⟨w.heap.size, 2, none⟩ = some (.int .i64 sr) := fun o => alloc_cell a2 o
 have a3 : w'.cell? ⟨w.heap.size, 3, none⟩ = some (.int .i64 sx) := uh HCL w' Bz 3 _ rfl
 have A3 : ∀ o, (w'.alloc o).cell? ⟨w.heap.size, 3, none⟩ = some (.int .i64 sx) := fun o => alloc_cell a3 o
 have a4 : w'.cell? ⟨w.heap.size, 4, none⟩ = some (.int .i64 dm) := uh HCL w' Bz 4 _ rfl
 have A4 : ∀ o, (w'.alloc o).cell? ⟨w.heap.size, 4, none⟩ = some (.int .i64 dm) := fun o => alloc_cell a4 o
 have a5 : w'.cell? ⟨w.heap.size, 5, none⟩ = some (.int .i64 dr) := uh HCL w' Bz 5 _ rfl
 have A5 : ∀ o, (w'.alloc o).cell? ⟨w.heap.size, 5, none⟩ = some (.int .i64 dr) := fun o => alloc_cell a5 o
 have a6 : w'.cell? ⟨w.heap.size, 6, none⟩ = some (.int .i64 dx) := uh HCL w' Bz 6 _ rfl
 have A6 : ∀ o, (w'.alloc o).cell? ⟨w.heap.size, 6, none⟩ = some (.int .i64 dx) := fun o => alloc_cell a6 o
 have a7 : w'.cell? ⟨w.heap.size, 7, none⟩ = some (.int .i64 n) := uh HCL w' Bz 7 _ rfl
 have A7 : ∀ o, (w'.alloc o).cell? ⟨w.heap.size, 7, none⟩ = some (.int .i64 n) := fun o => alloc_cell a7 o
 clear hb
 rw [hok]
 go_wp2_with fail
 refine (base_any k (by omega) _).mono ?_
 rintro e w' ⟨rfl, hb⟩
 have Bz := box_step Bz (uh HZ) hb
 have a0 : w'.cell? ⟨w.heap.size, 0, none⟩ = some (.int .i64 (k : Int)) := uh HCL w' Bz 0 _ rfl
 have A0 : ∀ o, (w'.alloc o).cell? ⟨w.heap.size, 0, none⟩ = some (.int .i64 (k : Int)) := fun o => alloc_cell a0 o
 have a1 : w'.cell? ⟨w.heap.size, 1, none⟩ = some (.int .i64 sm) := uh HCL w' Bz 1 _ rfl
 have A1 : ∀ o, (w'.alloc o).cell? ⟨w.heap.size, 1, none⟩ = some (.int .i64 sm) := fun o => alloc_cell a1 o
 have a2 : w'.cell? ⟨w.heap.size, 2, none⟩ = some (.int .i64 sr) := uh HCL w' Bz 2 _ rfl
 have A2 : ∀ o, (w'.alloc o).cell? ⟨w.heap.size, 2, none⟩ = some (.int .i64 sr) := fun o => alloc_cell a2 o
 have a3 : w'.cell? ⟨w.heap.size, 3, none⟩ = some (.int .i64 sx) := uh HCL w' Bz 3 _ rfl
 have A3 : ∀ o, (w'.alloc o).cell? ⟨w.heap.size, 3, none⟩ = some (.int .i64 sx) := fun o => alloc_cell a3 o
 have a4 : w'.cell? ⟨w.heap.size, 4, none⟩ = some (.int .i64 dm) := uh HCL w' Bz 4 _ rfl
 have A4 : ∀ o, (w'.alloc o).cell? ⟨w.heap.size, 4, none⟩ = some (.int .i64 dm) := fun o => alloc_cell a4 o
 have a5 : w'.cell? ⟨w.heap.size, 5, none⟩ = some (.int .i64 dr) := uh HCL w' Bz 5 _ rfl
 have A5 : ∀ o, (w'.alloc o).cell? ⟨w.heap.size, 5, none⟩ = some (.int .i64 dr) := fun o => alloc_cell a5 o
 have a6 : w'.cell? ⟨w.heap.size, 6, none⟩ = some (.int .i64 dx) := uh HCL w' Bz 6 _ rfl
 have A6 : ∀ o, (w'.alloc o).cell? ⟨w.heap.size, 6, none⟩ = some (.int .i64 dx) := fun o => alloc_cell a6 o
 have a7 : w'.cell? ⟨w.heap.size, 7, none⟩ = some (.int .i64 n) := uh HCL w' Bz 7 _ rfl
 have A7 : ∀ o, (w'.alloc o).cell? ⟨w.heap.size, 7, none⟩ = some (.int .i64 n) := fun o => alloc_cell a7 o
 clear hb
 rw [hbk]
 have hsz := Bz.size
 rw [uh HZ] at hsz
 have OO := hide ((own_one w' (b + n)).base (show w.heap.size + 1 ≤ w'.heap.size by omega))
 have HN : (Value.slice (some ⟨w'.heap.size, 0, none⟩) 1 1) ≠ .slice none 0 0 := by simp
 have B0 := box_step Bz (uh HZ) ((Below.refl w'.heap.size w').alloc (Nat.le_refl _) (Obj.cells #[.int .i64 (b + n)] 3))
 have Bz := B0
 go_wp2
 go_ret
 exact ⟨(.slice (some ⟨w'.heap.size, 0, none⟩) 1 1), rfl, HN, by rw [uh HCo, uh HXs]; exact (uh OO).base (by omega), uh HB _ Bz⟩
theorem encS_D2 (k : Nat) (sm sr sx dm dr dx n : Int) (w : World) (hok : Is.ok ⟨(k : Int), ⟨sm, sr, sx⟩, ⟨dm, dr, dx⟩, n⟩ = true) (h1 : (k : Int) = 23) :
  Calls Tryz.prog 53 #[.agg #[.int .i64 (k : Int), .int .i64 sm, .int .i64 sr, .int .i64 sx, .int .i64 dm, .int .i64 dr, .int .i64 dx, .int .i64 n]] w fun e w' => ∃ v, e = .returned v ∧ v ≠ .slice none 0 0 ∧ OwnN w' w.heap.size v (Is.code ⟨(k : Int), ⟨sm, sr, sx⟩, ⟨dm, dr, dx⟩, n⟩ :: Is.xs ⟨(k : Int), ⟨sm, sr, sx⟩, ⟨dm, dr, dx⟩, n⟩) ∧ Below w.heap.size w w' := by
 obtain ⟨i0, hi, hz0, hz1, hz2⟩ := info_parts info3
 have HZ := hide (show (w.alloc (Obj.cells #[.int .i64 (k : Int), .int .i64 sm, .int .i64 sr, .int .i64 sx, .int .i64 dm, .int .i64 dr, .int .i64 dx, .int .i64 n] 69)).heap.size = w.heap.size + 1 by simp)
 have HCL := hide (box_cells w #[.int .i64 (k : Int), .int .i64 sm, .int .i64 sr, .int .i64 sx, .int .i64 dm, .int .i64 dr, .int .i64 dx, .int .i64 n] 69)
 have HB := hide (box_below w (Obj.cells #[.int .i64 (k : Int), .int .i64 sm, .int .i64 sr, .int .i64 sx, .int .i64 dm, .int .i64 dr, .int .i64 dx, .int .i64 n] 69))
 have Bz : Below (w.heap.size + 1) (w.alloc (Obj.cells #[.int .i64 (k : Int), .int .i64 sm, .int .i64 sr, .int .i64 sx, .int .i64 dm, .int .i64 dr, .int .i64 dx, .int .i64 n] 69)) (w.alloc (Obj.cells #[.int .i64 (k : Int), .int .i64 sm, .int .i64 sr, .int .i64 sx, .int .i64 dm, .int .i64 dr, .int .i64 dx, .int .i64 n] 69)) := Below.refl _ _
 obtain ⟨⟨q1, q2⟩, q3, q4, q5, q6, q7, q8, q9, q10, q11⟩ := is_ok hok
 simp only at q1 q2 q3 q4 q5 q6 q7 q8 q9 q10 q11
 have hbb := base_bd ⟨k, by omega⟩
 simp only at hbb
 obtain ⟨b, hbk⟩ : ∃ b, baseAt k = b := ⟨_, rfl⟩
 rw [hbk] at hbb
 obtain ⟨p, hp6⟩ : ∃ p, Od.six ⟨sm, sr, sx⟩ = p := ⟨_, rfl⟩
 obtain ⟨q, hq6⟩ : ∃ q, Od.six ⟨dm, dr, dx⟩ = q := ⟨_, rfl⟩
 obtain ⟨sX, hsX⟩ : ∃ q, Od.hasX ⟨sm, sr, sx⟩ = q := ⟨_, rfl⟩
 obtain ⟨dX, hdX⟩ : ∃ q, Od.hasX ⟨dm, dr, dx⟩ = q := ⟨_, rfl⟩
 have hnb : 0 ≤ n ∧ n ≤ 255 := by have := q11 (by omega); omega
 have HCo := hide (show Is.code ⟨(k : Int), ⟨sm, sr, sx⟩, ⟨dm, dr, dx⟩, n⟩ = b + n by unfold Is.code; simp only [Int.toNat_natCast, hp6, hq6, hbk]; rw [if_neg (by omega)]; rw [if_neg (by omega)]; rw [if_neg (by omega)]; rw [if_pos (by omega)])
 have HXs := hide (show Is.xs ⟨(k : Int), ⟨sm, sr, sx⟩, ⟨dm, dr, dx⟩, n⟩ = ([] : List Int) by unfold Is.xs; simp only; rw [if_neg (by omega), if_neg (by omega)]; rfl)
 have nd6 : decide ((k : Int) ≤ 6) = false := by simp; omega
 have nd14 : decide ((k : Int) ≤ 14) = false := by simp; omega
 have nd15 : decide ((k : Int) ≤ 15) = false := by simp; omega
 have ne15 : ((k : Int) == 15) = false := beq_eq_false_iff_ne.2 (by omega)
 have h16 : ((k : Int) == 16) = false := beq_eq_false_iff_ne.2 (by omega)
 have h23 : ((k : Int) == 23) = true := by simp; omega
 clear h1
 clear q3 q4 q5 q6 q8 q9 q10 q11
 go_enter Tryz.func53, Tryz.ntmps53
 go_wp2_with fail
 refine (insOk_any ⟨(k : Int), ⟨sm, sr, sx⟩, ⟨dm, dr, dx⟩, n⟩ _).mono ?_
 rintro e w' ⟨rfl, hb⟩
 have Bz := box_step Bz (uh HZ) hb
 have a0 : w'.cell? ⟨w.heap.size, 0, none⟩ = some (.int .i64 (k : Int)) := uh HCL w' Bz 0 _ rfl
 have A0 : ∀ o, (w'.alloc o).cell? ⟨w.heap.size, 0, none⟩ = some (.int .i64 (k : Int)) := fun o => alloc_cell a0 o
 have a1 : w'.cell? ⟨w.heap.size, 1, none⟩ = some (.int .i64 sm) := uh HCL w' Bz 1 _ rfl
 have A1 : ∀ o, (w'.alloc o).cell? ⟨w.heap.size, 1, none⟩ = some (.int .i64 sm) := fun o => alloc_cell a1 o
 have a2 : w'.cell? ⟨w.heap.size, 2, none⟩ = some (.int .i64 sr) := uh HCL w' Bz 2 _ rfl
 have A2 : ∀ o, (w'.alloc o).cell? ⟨w.heap.size, 2, none⟩ = some (.int .i64 sr) := fun o => alloc_cell a2 o
 have a3 : w'.cell? ⟨w.heap.size, 3, none⟩ = some (.int .i64 sx) := uh HCL w' Bz 3 _ rfl
 have A3 : ∀ o, (w'.alloc o).cell? ⟨w.heap.size, 3, none⟩ = some (.int .i64 sx) := fun o => alloc_cell a3 o
 have a4 : w'.cell? ⟨w.heap.size, 4, none⟩ = some (.int .i64 dm) := uh HCL w' Bz 4 _ rfl
 have A4 : ∀ o, (w'.alloc o).cell? ⟨w.heap.size, 4, none⟩ = some (.int .i64 dm) := fun o => alloc_cell a4 o
 have a5 : w'.cell? ⟨w.heap.size, 5, none⟩ = some (.int .i64 dr) := uh HCL w' Bz 5 _ rfl
 have A5 : ∀ o, (w'.alloc o).cell? ⟨w.heap.size, 5, none⟩ = some (.int .i64 dr) := fun o => alloc_cell a5 o
 have a6 : w'.cell? ⟨w.heap.size, 6, none⟩ = some (.int .i64 dx) := uh HCL w' Bz 6 _ rfl
 have A6 : ∀ o, (w'.alloc o).cell? ⟨w.heap.size, 6, none⟩ = some (.int .i64 dx) := fun o => alloc_cell a6 o
 have a7 : w'.cell? ⟨w.heap.size, 7, none⟩ = some (.int .i64 n) := uh HCL w' Bz 7 _ rfl
 have A7 : ∀ o, (w'.alloc o).cell? ⟨w.heap.size, 7, none⟩ = some (.int .i64 n) := fun o => alloc_cell a7 o
 clear hb
 rw [hok]
 go_wp2_with fail
 refine (base_any k (by omega) _).mono ?_
 rintro e w' ⟨rfl, hb⟩
 have Bz := box_step Bz (uh HZ) hb
 have a0 : w'.cell? ⟨w.heap.size, 0, none⟩ = some (.int .i64 (k : Int)) := uh HCL w' Bz 0 _ rfl
 have A0 : ∀ o, (w'.alloc o).cell? ⟨w.heap.size, 0, none⟩ = some (.int .i64 (k : Int)) := fun o => alloc_cell a0 o
 have a1 : w'.cell? ⟨w.heap.size, 1, none⟩ = some (.int .i64 sm) := uh HCL w' Bz 1 _ rfl
 have A1 : ∀ o, (w'.alloc o).cell? ⟨w.heap.size, 1, none⟩ = some (.int .i64 sm) := fun o => alloc_cell a1 o
 have a2 : w'.cell? ⟨w.heap.size, 2, none⟩ = some (.int .i64 sr) := uh HCL w' Bz 2 _ rfl
 have A2 : ∀ o, (w'.alloc o).cell? ⟨w.heap.size, 2, none⟩ = some (.int .i64 sr) := fun o => alloc_cell a2 o
 have a3 : w'.cell? ⟨w.heap.size, 3, none⟩ = some (.int .i64 sx) := uh HCL w' Bz 3 _ rfl
 have A3 : ∀ o, (w'.alloc o).cell? ⟨w.heap.size, 3, none⟩ = some (.int .i64 sx) := fun o => alloc_cell a3 o
 have a4 : w'.cell? ⟨w.heap.size, 4, none⟩ = some (.int .i64 dm) := uh HCL w' Bz 4 _ rfl
 have A4 : ∀ o, (w'.alloc o).cell? ⟨w.heap.size, 4, none⟩ = some (.int .i64 dm) := fun o => alloc_cell a4 o
 have a5 : w'.cell? ⟨w.heap.size, 5, none⟩ = some (.int .i64 dr) := uh HCL w' Bz 5 _ rfl
 have A5 : ∀ o, (w'.alloc o).cell? ⟨w.heap.size, 5, none⟩ = some (.int .i64 dr) := fun o => alloc_cell a5 o
 have a6 : w'.cell? ⟨w.heap.size, 6, none⟩ = some (.int .i64 dx) := uh HCL w' Bz 6 _ rfl
 have A6 : ∀ o, (w'.alloc o).cell? ⟨w.heap.size, 6, none⟩ = some (.int .i64 dx) := fun o => alloc_cell a6 o
 have a7 : w'.cell? ⟨w.heap.size, 7, none⟩ = some (.int .i64 n) := uh HCL w' Bz 7 _ rfl
 have A7 : ∀ o, (w'.alloc o).cell? ⟨w.heap.size, 7, none⟩ = some (.int .i64 n) := fun o => alloc_cell a7 o
 clear hb
 rw [hbk]
 have hsz := Bz.size
 rw [uh HZ] at hsz
 have OO := hide ((own_one w' (b + n)).base (show w.heap.size + 1 ≤ w'.heap.size by omega))
 have HN : (Value.slice (some ⟨w'.heap.size, 0, none⟩) 1 1) ≠ .slice none 0 0 := by simp
 have B0 := box_step Bz (uh HZ) ((Below.refl w'.heap.size w').alloc (Nat.le_refl _) (Obj.cells #[.int .i64 (b + n)] 3))
 have Bz := B0
 go_wp2
 go_ret
 exact ⟨(.slice (some ⟨w'.heap.size, 0, none⟩) 1 1), rfl, HN, by rw [uh HCo, uh HXs]; exact (uh OO).base (by omega), uh HB _ Bz⟩
theorem encS_E (k : Nat) (sm sr sx dm dr dx n : Int) (w : World) (hok : Is.ok ⟨(k : Int), ⟨sm, sr, sx⟩, ⟨dm, dr, dx⟩, n⟩ = true) (h1 : 16 < (k : Int)) (h2 : (k : Int) ≤ 21) :
  Calls Tryz.prog 53 #[.agg #[.int .i64 (k : Int), .int .i64 sm, .int .i64 sr, .int .i64 sx, .int .i64 dm, .int .i64 dr, .int .i64 dx, .int .i64 n]] w fun e w' => ∃ v, e = .returned v ∧ v ≠ .slice none 0 0 ∧ OwnN w' w.heap.size v (Is.code ⟨(k : Int), ⟨sm, sr, sx⟩, ⟨dm, dr, dx⟩, n⟩ :: Is.xs ⟨(k : Int), ⟨sm, sr, sx⟩, ⟨dm, dr, dx⟩, n⟩) ∧ Below w.heap.size w w' := by
 obtain ⟨i0, hi, hz0, hz1, hz2⟩ := info_parts info3
 have HZ := hide (show (w.alloc (Obj.cells #[.int .i64 (k : Int), .int .i64 sm, .int .i64 sr, .int .i64 sx, .int .i64 dm, .int .i64 dr, .int .i64 dx, .int .i64 n] 69)).heap.size = w.heap.size + 1 by simp)
 have HCL := hide (box_cells w #[.int .i64 (k : Int), .int .i64 sm, .int .i64 sr, .int .i64 sx, .int .i64 dm, .int .i64 dr, .int .i64 dx, .int .i64 n] 69)
 have HB := hide (box_below w (Obj.cells #[.int .i64 (k : Int), .int .i64 sm, .int .i64 sr, .int .i64 sx, .int .i64 dm, .int .i64 dr, .int .i64 dx, .int .i64 n] 69))
 have Bz : Below (w.heap.size + 1) (w.alloc (Obj.cells #[.int .i64 (k : Int), .int .i64 sm, .int .i64 sr, .int .i64 sx, .int .i64 dm, .int .i64 dr, .int .i64 dx, .int .i64 n] 69)) (w.alloc (Obj.cells #[.int .i64 (k : Int), .int .i64 sm, .int .i64 sr, .int .i64 sx, .int .i64 dm, .int .i64 dr, .int .i64 dx, .int .i64 n] 69)) := Below.refl _ _
 obtain ⟨⟨q1, q2⟩, q3, q4, q5, q6, q7, q8, q9, q10, q11⟩ := is_ok hok
 simp only at q1 q2 q3 q4 q5 q6 q7 q8 q9 q10 q11
 have hbb := base_bd ⟨k, by omega⟩
 simp only at hbb
 obtain ⟨b, hbk⟩ : ∃ b, baseAt k = b := ⟨_, rfl⟩
 rw [hbk] at hbb
 obtain ⟨p, hp6⟩ : ∃ p, Od.six ⟨sm, sr, sx⟩ = p := ⟨_, rfl⟩
 obtain ⟨q, hq6⟩ : ∃ q, Od.six ⟨dm, dr, dx⟩ = q := ⟨_, rfl⟩
 obtain ⟨sX, hsX⟩ : ∃ q, Od.hasX ⟨sm, sr, sx⟩ = q := ⟨_, rfl⟩
 obtain ⟨dX, hdX⟩ : ∃ q, Od.hasX ⟨dm, dr, dx⟩ = q := ⟨_, rfl⟩
 have HCo := hide (show Is.code ⟨(k : Int), ⟨sm, sr, sx⟩, ⟨dm, dr, dx⟩, n⟩ = b + n % 256 by unfold Is.code; simp only [Int.toNat_natCast, hp6, hq6, hbk]; rw [if_neg (by omega)]; rw [if_neg (by omega)]; rw [if_neg (by omega)]; rw [if_neg (by omega)]; rw [if_pos (by omega)])
 have HXs := hide (show Is.xs ⟨(k : Int), ⟨sm, sr, sx⟩, ⟨dm, dr, dx⟩, n⟩ = ([] : List Int) by unfold Is.xs; simp only; rw [if_neg (by omega), if_neg (by omega)]; rfl)
 have hle : (k : Int) ≤ 21 := h2
 have h255 := i64_and255 n
 have nd6 : decide ((k : Int) ≤ 6) = false := by simp; omega
 have nd14 : decide ((k : Int) ≤ 14) = false := by simp; omega
 have nd15 : decide ((k : Int) ≤ 15) = false := by simp; omega
 have ne15 : ((k : Int) == 15) = false := beq_eq_false_iff_ne.2 (by omega)
 have ne16 : ((k : Int) == 16) = false := beq_eq_false_iff_ne.2 (by omega)
 have ne23 : ((k : Int) == 23) = false := beq_eq_false_iff_ne.2 (by omega)
 clear h1 h2
 clear q3 q4 q5 q6 q8 q9 q10 q11
 go_enter Tryz.func53, Tryz.ntmps53
 go_wp2_with fail
 refine (insOk_any ⟨(k : Int), ⟨sm, sr, sx⟩, ⟨dm, dr, dx⟩, n⟩ _).mono ?_
 rintro e w' ⟨rfl, hb⟩
 have Bz := box_step Bz (uh HZ) hb
 have a0 : w'.cell? ⟨w.heap.size, 0, none⟩ = some (.int .i64 (k : Int)) := uh HCL w' Bz 0 _ rfl
 have A0 : ∀ o, (w'.alloc o).cell? ⟨w.heap.size, 0, none⟩ = some (.int .i64 (k : Int)) := fun o => alloc_cell a0 o
 have a1 : w'.cell? ⟨w.heap.size, 1, none⟩ = some (.int .i64 sm) := uh HCL w' Bz 1 _ rfl
 have A1 : ∀ o, (w'.alloc o).cell? ⟨w.heap.size, 1, none⟩ = some (.int .i64 sm) := fun o => alloc_cell a1 o
 have a2 : w'.cell? ⟨w.heap.size, 2, none⟩ = some (.int .i64 sr) := uh HCL w' Bz 2 _ rfl
 have A2 : ∀ o, (w'.alloc o).cell? ⟨w.heap.size, 2, none⟩ = some (.int .i64 sr) := fun o => alloc_cell a2 o
 have a3 : w'.cell? ⟨w.heap.size, 3, none⟩ = some (.int .i64 sx) := uh HCL w' Bz 3 _ rfl
 have A3 : ∀ o, (w'.alloc o).cell? ⟨w.heap.size, 3, none⟩ = some (.int .i64 sx) := fun o => alloc_cell a3 o
 have a4 : w'.cell? ⟨w.heap.size, 4, none⟩ = some (.int .i64 dm) := uh HCL w' Bz 4 _ rfl
 have A4 : ∀ o, (w'.alloc o).cell? ⟨w.heap.size, 4, none⟩ = some (.int .i64 dm) := fun o => alloc_cell a4 o
 have a5 : w'.cell? ⟨w.heap.size, 5, none⟩ = some (.int .i64 dr) := uh HCL w' Bz 5 _ rfl
 have A5 : ∀ o, (w'.alloc o).cell? ⟨w.heap.size, 5, none⟩ = some (.int .i64 dr) := fun o => alloc_cell a5 o
 have a6 : w'.cell? ⟨w.heap.size, 6, none⟩ = some (.int .i64 dx) := uh HCL w' Bz 6 _ rfl
 have A6 : ∀ o, (w'.alloc o).cell? ⟨w.heap.size, 6, none⟩ = some (.int .i64 dx) := fun o => alloc_cell a6 o
 have a7 : w'.cell? ⟨w.heap.size, 7, none⟩ = some (.int .i64 n) := uh HCL w' Bz 7 _ rfl
 have A7 : ∀ o, (w'.alloc o).cell? ⟨w.heap.size, 7, none⟩ = some (.int .i64 n) := fun o => alloc_cell a7 o
 clear hb
 rw [hok]
 go_wp2_with fail
 refine (base_any k (by omega) _).mono ?_
 rintro e w' ⟨rfl, hb⟩
 have Bz := box_step Bz (uh HZ) hb
 have a0 : w'.cell? ⟨w.heap.size, 0, none⟩ = some (.int .i64 (k : Int)) := uh HCL w' Bz 0 _ rfl
 have A0 : ∀ o, (w'.alloc o).cell? ⟨w.heap.size, 0, none⟩ = some (.int .i64 (k : Int)) := fun o => alloc_cell a0 o
 have a1 : w'.cell? ⟨w.heap.size, 1, none⟩ = some (.int .i64 sm) := uh HCL w' Bz 1 _ rfl
 have A1 : ∀ o, (w'.alloc o).cell? ⟨w.heap.size, 1, none⟩ = some (.int .i64 sm) := fun o => alloc_cell a1 o
 have a2 : w'.cell? ⟨w.heap.size, 2, none⟩ = some (.int .i64 sr) := uh HCL w' Bz 2 _ rfl
 have A2 : ∀ o, (w'.alloc o).cell? ⟨w.heap.size, 2, none⟩ = some (.int .i64 sr) := fun o => alloc_cell a2 o
 have a3 : w'.cell? ⟨w.heap.size, 3, none⟩ = some (.int .i64 sx) := uh HCL w' Bz 3 _ rfl
 have A3 : ∀ o, (w'.alloc o).cell? ⟨w.heap.size, 3, none⟩ = some (.int .i64 sx) := fun o => alloc_cell a3 o
 have a4 : w'.cell? ⟨w.heap.size, 4, none⟩ = some (.int .i64 dm) := uh HCL w' Bz 4 _ rfl
 have A4 : ∀ o, (w'.alloc o).cell? ⟨w.heap.size, 4, none⟩ = some (.int .i64 dm) := fun o => alloc_cell a4 o
 have a5 : w'.cell? ⟨w.heap.size, 5, none⟩ = some (.int .i64 dr) := uh HCL w' Bz 5 _ rfl
 have A5 : ∀ o, (w'.alloc o).cell? ⟨w.heap.size, 5, none⟩ = some (.int .i64 dr) := fun o => alloc_cell a5 o
 have a6 : w'.cell? ⟨w.heap.size, 6, none⟩ = some (.int .i64 dx) := uh HCL w' Bz 6 _ rfl
 have A6 : ∀ o, (w'.alloc o).cell? ⟨w.heap.size, 6, none⟩ = some (.int .i64 dx) := fun o => alloc_cell a6 o
 have a7 : w'.cell? ⟨w.heap.size, 7, none⟩ = some (.int .i64 n) := uh HCL w' Bz 7 _ rfl
 have A7 : ∀ o, (w'.alloc o).cell? ⟨w.heap.size, 7, none⟩ = some (.int .i64 n) := fun o => alloc_cell a7 o
 clear hb
 rw [hbk]
 have hsz := Bz.size
 rw [uh HZ] at hsz
 have OO := hide ((own_one w' (b + n % 256)).base (show w.heap.size + 1 ≤ w'.heap.size by omega))
 have HN : (Value.slice (some ⟨w'.heap.size, 0, none⟩) 1 1) ≠ .slice none 0 0 := by simp
 have B0 := box_step Bz (uh HZ) ((Below.refl w'.heap.size w').alloc (Nat.le_refl _) (Obj.cells #[.int .i64 (b + n % 256)] 3))
 have Bz := B0
 go_wp2
 go_ret
 exact ⟨(.slice (some ⟨w'.heap.size, 0, none⟩) 1 1), rfl, HN, by rw [uh HCo, uh HXs]; exact (uh OO).base (by omega), uh HB _ Bz⟩
theorem encS_F (k : Nat) (sm sr sx dm dr dx n : Int) (w : World) (hok : Is.ok ⟨(k : Int), ⟨sm, sr, sx⟩, ⟨dm, dr, dx⟩, n⟩ = true) (h1 : (k : Int) = 22) :
  Calls Tryz.prog 53 #[.agg #[.int .i64 (k : Int), .int .i64 sm, .int .i64 sr, .int .i64 sx, .int .i64 dm, .int .i64 dr, .int .i64 dx, .int .i64 n]] w fun e w' => ∃ v, e = .returned v ∧ v ≠ .slice none 0 0 ∧ OwnN w' w.heap.size v (Is.code ⟨(k : Int), ⟨sm, sr, sx⟩, ⟨dm, dr, dx⟩, n⟩ :: Is.xs ⟨(k : Int), ⟨sm, sr, sx⟩, ⟨dm, dr, dx⟩, n⟩) ∧ Below w.heap.size w w' := by
 obtain ⟨i0, hi, hz0, hz1, hz2⟩ := info_parts info3
 have HZ := hide (show (w.alloc (Obj.cells #[.int .i64 (k : Int), .int .i64 sm, .int .i64 sr, .int .i64 sx, .int .i64 dm, .int .i64 dr, .int .i64 dx, .int .i64 n] 69)).heap.size = w.heap.size + 1 by simp)
 have HCL := hide (box_cells w #[.int .i64 (k : Int), .int .i64 sm, .int .i64 sr, .int .i64 sx, .int .i64 dm, .int .i64 dr, .int .i64 dx, .int .i64 n] 69)
 have HB := hide (box_below w (Obj.cells #[.int .i64 (k : Int), .int .i64 sm, .int .i64 sr, .int .i64 sx, .int .i64 dm, .int .i64 dr, .int .i64 dx, .int .i64 n] 69))
 have Bz : Below (w.heap.size + 1) (w.alloc (Obj.cells #[.int .i64 (k : Int), .int .i64 sm, .int .i64 sr, .int .i64 sx, .int .i64 dm, .int .i64 dr, .int .i64 dx, .int .i64 n] 69)) (w.alloc (Obj.cells #[.int .i64 (k : Int), .int .i64 sm, .int .i64 sr, .int .i64 sx, .int .i64 dm, .int .i64 dr, .int .i64 dx, .int .i64 n] 69)) := Below.refl _ _
 obtain ⟨⟨q1, q2⟩, q3, q4, q5, q6, q7, q8, q9, q10, q11⟩ := is_ok hok
 simp only at q1 q2 q3 q4 q5 q6 q7 q8 q9 q10 q11
 have hbb := base_bd ⟨k, by omega⟩
 simp only at hbb
 obtain ⟨b, hbk⟩ : ∃ b, baseAt k = b := ⟨_, rfl⟩
 rw [hbk] at hbb
 obtain ⟨p, hp6⟩ : ∃ p, Od.six ⟨sm, sr, sx⟩ = p := ⟨_, rfl⟩
 obtain ⟨q, hq6⟩ : ∃ q, Od.six ⟨dm, dr, dx⟩ = q := ⟨_, rfl⟩
 obtain ⟨sX, hsX⟩ : ∃ q, Od.hasX ⟨sm, sr, sx⟩ = q := ⟨_, rfl⟩
 obtain ⟨dX, hdX⟩ : ∃ q, Od.hasX ⟨dm, dr, dx⟩ = q := ⟨_, rfl⟩
 have HCo := hide (show Is.code ⟨(k : Int), ⟨sm, sr, sx⟩, ⟨dm, dr, dx⟩, n⟩ = b by unfold Is.code; simp only [Int.toNat_natCast, hp6, hq6, hbk]; rw [if_neg (by omega)]; rw [if_neg (by omega)]; rw [if_neg (by omega)]; rw [if_neg (by omega)]; rw [if_neg (by omega)])
 have HXs := hide (show Is.xs ⟨(k : Int), ⟨sm, sr, sx⟩, ⟨dm, dr, dx⟩, n⟩ = ([] : List Int) by unfold Is.xs; simp only; rw [if_neg (by omega), if_neg (by omega)]; rfl)
 have nd6 : decide ((k : Int) ≤ 6) = false := by simp; omega
 have nd14 : decide ((k : Int) ≤ 14) = false := by simp; omega
 have nd15 : decide ((k : Int) ≤ 15) = false := by simp; omega
 have nd21 : decide ((k : Int) ≤ 21) = false := by simp; omega
 have ne15 : ((k : Int) == 15) = false := beq_eq_false_iff_ne.2 (by omega)
 have ne16 : ((k : Int) == 16) = false := beq_eq_false_iff_ne.2 (by omega)
 have ne23 : ((k : Int) == 23) = false := beq_eq_false_iff_ne.2 (by omega)
 clear h1
 clear q3 q4 q5 q6 q8 q9 q10 q11
 go_enter Tryz.func53, Tryz.ntmps53
 go_wp2_with fail
 refine (insOk_any ⟨(k : Int), ⟨sm, sr, sx⟩, ⟨dm, dr, dx⟩, n⟩ _).mono ?_
 rintro e w' ⟨rfl, hb⟩
 have Bz := box_step Bz (uh HZ) hb
 have a0 : w'.cell? ⟨w.heap.size, 0, none⟩ = some (.int .i64 (k : Int)) := uh HCL w' Bz 0 _ rfl
 have A0 : ∀ o, (w'.alloc o).cell? ⟨w.heap.size, 0, none⟩ = some (.int .i64 (k : Int)) := fun o => alloc_cell a0 o
 have a1 : w'.cell? ⟨w.heap.size, 1, none⟩ = some (.int .i64 sm) := uh HCL w' Bz 1 _ rfl
 have A1 : ∀ o, (w'.alloc o).cell? ⟨w.heap.size, 1, none⟩ = some (.int .i64 sm) := fun o => alloc_cell a1 o
 have a2 : w'.cell? ⟨w.heap.size, 2, none⟩ = some (.int .i64 sr) := uh HCL w' Bz 2 _ rfl
 have A2 : ∀ o, (w'.alloc o).cell? ⟨w.heap.size, 2, none⟩ = some (.int .i64 sr) := fun o => alloc_cell a2 o
 have a3 : w'.cell? ⟨w.heap.size, 3, none⟩ = some (.int .i64 sx) := uh HCL w' Bz 3 _ rfl
 have A3 : ∀ o, (w'.alloc o).cell? ⟨w.heap.size, 3, none⟩ = some (.int .i64 sx) := fun o => alloc_cell a3 o
 have a4 : w'.cell? ⟨w.heap.size, 4, none⟩ = some (.int .i64 dm) := uh HCL w' Bz 4 _ rfl
 have A4 : ∀ o, (w'.alloc o).cell? ⟨w.heap.size, 4, none⟩ = some (.int .i64 dm) := fun o => alloc_cell a4 o
 have a5 : w'.cell? ⟨w.heap.size, 5, none⟩ = some (.int .i64 dr) := uh HCL w' Bz 5 _ rfl
 have A5 : ∀ o, (w'.alloc o).cell? ⟨w.heap.size, 5, none⟩ = some (.int .i64 dr) := fun o => alloc_cell a5 o
 have a6 : w'.cell? ⟨w.heap.size, 6, none⟩ = some (.int .i64 dx) := uh HCL w' Bz 6 _ rfl
 have A6 : ∀ o, (w'.alloc o).cell? ⟨w.heap.size, 6, none⟩ = some (.int .i64 dx) := fun o => alloc_cell a6 o
 have a7 : w'.cell? ⟨w.heap.size, 7, none⟩ = some (.int .i64 n) := uh HCL w' Bz 7 _ rfl
 have A7 : ∀ o, (w'.alloc o).cell? ⟨w.heap.size, 7, none⟩ = some (.int .i64 n) := fun o => alloc_cell a7 o
 clear hb
 rw [hok]
 go_wp2_with fail
 refine (base_any k (by omega) _).mono ?_
 rintro e w' ⟨rfl, hb⟩
 have Bz := box_step Bz (uh HZ) hb
 have a0 : w'.cell? ⟨w.heap.size, 0, none⟩ = some (.int .i64 (k : Int)) := uh HCL w' Bz 0 _ rfl
 have A0 : ∀ o, (w'.alloc o).cell? ⟨w.heap.size, 0, none⟩ = some (.int .i64 (k : Int)) := fun o => alloc_cell a0 o
 have a1 : w'.cell? ⟨w.heap.size, 1, none⟩ = some (.int .i64 sm) := uh HCL w' Bz 1 _ rfl
 have A1 : ∀ o, (w'.alloc o).cell? ⟨w.heap.size, 1, none⟩ = some (.int .i64 sm) := fun o => alloc_cell a1 o
 have a2 : w'.cell? ⟨w.heap.size, 2, none⟩ = some (.int .i64 sr) := uh HCL w' Bz 2 _ rfl
 have A2 : ∀ o, (w'.alloc o).cell? ⟨w.heap.size, 2, none⟩ = some (.int .i64 sr) := fun o => alloc_cell a2 o
 have a3 : w'.cell? ⟨w.heap.size, 3, none⟩ = some (.int .i64 sx) := uh HCL w' Bz 3 _ rfl
 have A3 : ∀ o, (w'.alloc o).cell? ⟨w.heap.size, 3, none⟩ = some (.int .i64 sx) := fun o => alloc_cell a3 o
 have a4 : w'.cell? ⟨w.heap.size, 4, none⟩ = some (.int .i64 dm) := uh HCL w' Bz 4 _ rfl
 have A4 : ∀ o, (w'.alloc o).cell? ⟨w.heap.size, 4, none⟩ = some (.int .i64 dm) := fun o => alloc_cell a4 o
 have a5 : w'.cell? ⟨w.heap.size, 5, none⟩ = some (.int .i64 dr) := uh HCL w' Bz 5 _ rfl
 have A5 : ∀ o, (w'.alloc o).cell? ⟨w.heap.size, 5, none⟩ = some (.int .i64 dr) := fun o => alloc_cell a5 o
 have a6 : w'.cell? ⟨w.heap.size, 6, none⟩ = some (.int .i64 dx) := uh HCL w' Bz 6 _ rfl
 have A6 : ∀ o, (w'.alloc o).cell? ⟨w.heap.size, 6, none⟩ = some (.int .i64 dx) := fun o => alloc_cell a6 o
 have a7 : w'.cell? ⟨w.heap.size, 7, none⟩ = some (.int .i64 n) := uh HCL w' Bz 7 _ rfl
 have A7 : ∀ o, (w'.alloc o).cell? ⟨w.heap.size, 7, none⟩ = some (.int .i64 n) := fun o => alloc_cell a7 o
 clear hb
 rw [hbk]
 have hsz := Bz.size
 rw [uh HZ] at hsz
 have OO := hide ((own_one w' (b)).base (show w.heap.size + 1 ≤ w'.heap.size by omega))
 have HN : (Value.slice (some ⟨w'.heap.size, 0, none⟩) 1 1) ≠ .slice none 0 0 := by simp
 have B0 := box_step Bz (uh HZ) ((Below.refl w'.heap.size w').alloc (Nat.le_refl _) (Obj.cells #[.int .i64 (b)] 3))
 have Bz := B0
 go_wp2
 go_ret
 exact ⟨(.slice (some ⟨w'.heap.size, 0, none⟩) 1 1), rfl, HN, by rw [uh HCo, uh HXs]; exact (uh OO).base (by omega), uh HB _ Bz⟩
theorem encS_no (op sm sr sx dm dr dx n : Int) (w : World) (hok : Is.ok ⟨op, ⟨sm, sr, sx⟩, ⟨dm, dr, dx⟩, n⟩ = false) :
  Calls Tryz.prog 53 #[.agg #[.int .i64 op, .int .i64 sm, .int .i64 sr, .int .i64 sx, .int .i64 dm, .int .i64 dr, .int .i64 dx, .int .i64 n]] w fun e w' => ∃ v, e = .returned v ∧ v ≠ .slice none 0 0 ∧ OwnN w' w.heap.size v [] ∧ Below w.heap.size w w' := by
 have HB := hide (box_below w (Obj.cells #[.int .i64 op, .int .i64 sm, .int .i64 sr, .int .i64 sx, .int .i64 dm, .int .i64 dr, .int .i64 dx, .int .i64 n] 69))
 have HZ := hide (show (w.alloc (Obj.cells #[.int .i64 op, .int .i64 sm, .int .i64 sr, .int .i64 sx, .int .i64 dm, .int .i64 dr, .int .i64 dx, .int .i64 n] 69)).heap.size = w.heap.size + 1 by simp)
 go_enter Tryz.func53, Tryz.ntmps53
 go_wp2_with fail
 refine (insOk_any ⟨op, ⟨sm, sr, sx⟩, ⟨dm, dr, dx⟩, n⟩ _).mono ?_
 rintro e w1 ⟨rfl, hb⟩
 rw [hok]
 rw [uh HZ] at hb
 have s1 := hb.size
 rw [uh HZ] at s1
 have B1 := hide (uh HB _ hb)
 clear hb
 go_wp2
 go_ret
 exact ⟨.slice (some ⟨w1.heap.size, 0, none⟩) 0 0, rfl, by simp, (ownN_empty w1).base (by omega), (uh B1).alloc (by omega) _⟩
theorem encS_any (i : Is) (w : World) : Calls Tryz.prog 53 #[i.v] w fun e w' => ∃ v, e = .returned v ∧ v ≠ .slice none 0 0 ∧ OwnN w' w.heap.size v i.enc ∧ Below w.heap.size w w' := by
 obtain ⟨op, ⟨sm, sr, sx⟩, ⟨dm, dr, dx⟩, n⟩ := i
 cases hok : Is.ok ⟨op, ⟨sm, sr, sx⟩, ⟨dm, dr, dx⟩, n⟩
 ·
  unfold Is.enc
  rw [hok]
  exact encS_no op sm sr sx dm dr dx n w hok
 ·
  have h := (is_ok hok).1
  simp only at h
  obtain ⟨k, rfl⟩ := Int.eq_ofNat_of_zero_le (show 0 ≤ op by omega)
  unfold Is.enc
  rw [if_pos hok]
  by_cases h1 : (k : Int) ≤ 6
  · exact encS_A k sm sr sx dm dr dx n w hok h1
  by_cases h2 : (k : Int) ≤ 14
  · exact encS_B k sm sr sx dm dr dx n w hok (by omega) h2
  by_cases h3 : (k : Int) = 15
  · exact encS_C k sm sr sx dm dr dx n w hok h3
  by_cases h4 : (k : Int) = 16
  · exact encS_D k sm sr sx dm dr dx n w hok h4
  by_cases h5 : (k : Int) = 23
  · exact encS_D2 k sm sr sx dm dr dx n w hok h5
  by_cases h6 : (k : Int) ≤ 21
  · exact encS_E k sm sr sx dm dr dx n w hok (by omega) h6
  · exact encS_F k sm sr sx dm dr dx n w hok (by omega)
end Go.Proofs.YtjpbjbnialehbaaGreatDoor
