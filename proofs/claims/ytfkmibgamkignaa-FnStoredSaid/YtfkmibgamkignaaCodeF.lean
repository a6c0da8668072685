/- Contracts of chapter 4's model (Encode), over a trial's translation; conditions stand as hypotheses of each. -/
import Derived.Test.YtfkmibgamkignaaCodeB
namespace Go.Proofs.Ytfkmibgamkignaa
open Go.ChangeShapes Go.WideShapes Go.ChangeAt Go.RowKit
set_option linter.unusedVariables false
set_option maxRecDepth 8000

set_option maxHeartbeats 4000000 in
theorem encS_D (k : Nat) (sm sr sx dm dr dx n : Int) (w : World) (hok : Is.ok ⟨(k : Int), ⟨sm, sr, sx⟩, ⟨dm, dr, dx⟩, n⟩ = true) (h1 : (k : Int) = 16) :
    Calls Try.prog 79 #[.agg #[.int .i64 (k : Int), .int .i64 sm, .int .i64 sr, .int .i64 sx, .int .i64 dm, .int .i64 dr, .int .i64 dx, .int .i64 n]] w fun e w' => ∃ v, e = .returned v ∧ v ≠ .slice none 0 0 ∧ OwnN w' w.heap.size v (Is.code ⟨(k : Int), ⟨sm, sr, sx⟩, ⟨dm, dr, dx⟩, n⟩ :: Is.xs ⟨(k : Int), ⟨sm, sr, sx⟩, ⟨dm, dr, dx⟩, n⟩) ∧ Below w.heap.size w w' := by
  obtain ⟨i0, hi, hz0, hz1, hz2⟩ := info_parts info3
  have HZ := hide (show (w.alloc (Obj.cells #[.int .i64 (k : Int), .int .i64 sm, .int .i64 sr, .int .i64 sx, .int .i64 dm, .int .i64 dr, .int .i64 dx, .int .i64 n] 92)).heap.size = w.heap.size + 1 by simp)
  have HCL := hide (box_cells w #[.int .i64 (k : Int), .int .i64 sm, .int .i64 sr, .int .i64 sx, .int .i64 dm, .int .i64 dr, .int .i64 dx, .int .i64 n] 92)
  have HB := hide (box_below w (Obj.cells #[.int .i64 (k : Int), .int .i64 sm, .int .i64 sr, .int .i64 sx, .int .i64 dm, .int .i64 dr, .int .i64 dx, .int .i64 n] 92))
  have Bz : Below (w.heap.size + 1) (w.alloc (Obj.cells #[.int .i64 (k : Int), .int .i64 sm, .int .i64 sr, .int .i64 sx, .int .i64 dm, .int .i64 dr, .int .i64 dx, .int .i64 n] 92)) (w.alloc (Obj.cells #[.int .i64 (k : Int), .int .i64 sm, .int .i64 sr, .int .i64 sx, .int .i64 dm, .int .i64 dr, .int .i64 dx, .int .i64 n] 92)) := Below.refl _ _
  obtain ⟨⟨q1, q2⟩, q3, q4, q5, q6, q7, q8, q9, q10, q11⟩ := is_ok hok
  simp only at q1 q2 q3 q4 q5 q6 q7 q8 q9 q10 q11
  have hbb := base_bd ⟨k, by omega⟩
  simp only at hbb
  obtain ⟨b, hbk⟩ : ∃ b, baseAt k = b := ⟨_, rfl⟩
  rw [hbk] at hbb
  obtain ⟨p, hp6⟩ : ∃ p, Od.six ⟨sm, sr, sx⟩ = p := ⟨_, rfl⟩
  obtain ⟨q, hq6⟩ : ∃ q, Od.six ⟨dm, dr, dx⟩ = q := ⟨_, rfl⟩
  obtain ⟨sX, hsX⟩ : ∃ q, Od.hasX ⟨sm, sr, sx⟩ = q := ⟨_, rfl⟩
  obtain ⟨dX, hdX⟩ : ∃ q, Od.hasX ⟨dm, dr, dx⟩ = q := ⟨_, rfl⟩
  have hnb : 0 ≤ n ∧ n ≤ 255 := by have := q9 (by omega); omega
  have HCo := hide (show Is.code ⟨(k : Int), ⟨sm, sr, sx⟩, ⟨dm, dr, dx⟩, n⟩ = b + n by unfold Is.code; simp only [Int.toNat_natCast, hp6, hq6, hbk]; rw [if_neg (by omega)]; rw [if_neg (by omega)]; rw [if_neg (by omega)]; rw [if_pos (by omega)])
  have HXs := hide (show Is.xs ⟨(k : Int), ⟨sm, sr, sx⟩, ⟨dm, dr, dx⟩, n⟩ = ([] : List Int) by unfold Is.xs; simp only; rw [if_neg (by omega), if_neg (by omega)]; rfl)
  have nd6 : decide ((k : Int) ≤ 6) = false := by simp; omega
  have nd14 : decide ((k : Int) ≤ 14) = false := by simp; omega
  have nd15 : decide ((k : Int) ≤ 15) = false := by simp; omega
  have ne15 : ((k : Int) == 15) = false := beq_eq_false_iff_ne.2 (by omega)
  have h16 : ((k : Int) == 16) = true := by simp; omega
  clear h1
  clear q3 q4 q5 q6 q8 q9 q10 q11
  go_enter Try.func79, Try.ntmps79
  go_wp2_with fail
  refine (insOk_any ⟨(k : Int), ⟨sm, sr, sx⟩, ⟨dm, dr, dx⟩, n⟩ _).mono ?_
  rintro e w' ⟨rfl, hb⟩
  have Bz := box_step Bz (unhide HZ) hb
  have a0 : w'.cell? ⟨w.heap.size, 0, none⟩ = some (.int .i64 (k : Int)) := unhide HCL w' Bz 0 _ rfl
  have A0 : ∀ o, (w'.alloc o).cell? ⟨w.heap.size, 0, none⟩ = some (.int .i64 (k : Int)) := fun o => alloc_cell a0 o
  have a1 : w'.cell? ⟨w.heap.size, 1, none⟩ = some (.int .i64 sm) := unhide HCL w' Bz 1 _ rfl
  have A1 : ∀ o, (w'.alloc o).cell? ⟨w.heap.size, 1, none⟩ = some (.int .i64 sm) := fun o => alloc_cell a1 o
  have a2 : w'.cell? ⟨w.heap.size, 2, none⟩ = some (.int .i64 sr) := unhide HCL w' Bz 2 _ rfl
  have A2 : ∀ o, (w'.alloc o).cell? ⟨w.heap.size, 2, none⟩ = some (.int .i64 sr) := fun o => alloc_cell a2 o
  have a3 : w'.cell? ⟨w.heap.size, 3, none⟩ = some (.int .i64 sx) := unhide HCL w' Bz 3 _ rfl
  have A3 : ∀ o, (w'.alloc o).cell? ⟨w.heap.size, 3, none⟩ = some (.int .i64 sx) := fun o => alloc_cell a3 o
  have a4 : w'.cell? ⟨w.heap.size, 4, none⟩ = some (.int .i64 dm) := unhide HCL w' Bz 4 _ rfl
  have A4 : ∀ o, (w'.alloc o).cell? ⟨w.heap.size, 4, none⟩ = some (.int .i64 dm) := fun o => alloc_cell a4 o
  have a5 : w'.cell? ⟨w.heap.size, 5, none⟩ = some (.int .i64 dr) := unhide HCL w' Bz 5 _ rfl
  have A5 : ∀ o, (w'.alloc o).cell? ⟨w.heap.size, 5, none⟩ = some (.int .i64 dr) := fun o => alloc_cell a5 o
  have a6 : w'.cell? ⟨w.heap.size, 6, none⟩ = some (.int .i64 dx) := unhide HCL w' Bz 6 _ rfl
  have A6 : ∀ o, (w'.alloc o).cell? ⟨w.heap.size, 6, none⟩ = some (.int .i64 dx) := fun o => alloc_cell a6 o
  have a7 : w'.cell? ⟨w.heap.size, 7, none⟩ = some (.int .i64 n) := unhide HCL w' Bz 7 _ rfl
  have A7 : ∀ o, (w'.alloc o).cell? ⟨w.heap.size, 7, none⟩ = some (.int .i64 n) := fun o => alloc_cell a7 o
  clear hb
  rw [hok]
  go_wp2_with fail
  refine (base_any k (by omega) _).mono ?_
  rintro e w' ⟨rfl, hb⟩
  have Bz := box_step Bz (unhide HZ) hb
  have a0 : w'.cell? ⟨w.heap.size, 0, none⟩ = some (.int .i64 (k : Int)) := unhide HCL w' Bz 0 _ rfl
  have A0 : ∀ o, (w'.alloc o).cell? ⟨w.heap.size, 0, none⟩ = some (.int .i64 (k : Int)) := fun o => alloc_cell a0 o
  have a1 : w'.cell? ⟨w.heap.size, 1, none⟩ = some (.int .i64 sm) := unhide HCL w' Bz 1 _ rfl
  have A1 : ∀ o, (w'.alloc o).cell? ⟨w.heap.size, 1, none⟩ = some (.int .i64 sm) := fun o => alloc_cell a1 o
  have a2 : w'.cell? ⟨w.heap.size, 2, none⟩ = some (.int .i64 sr) := unhide HCL w' Bz 2 _ rfl
  have A2 : ∀ o, (w'.alloc o).cell? ⟨w.heap.size, 2, none⟩ = some (.int .i64 sr) := fun o => alloc_cell a2 o
  have a3 : w'.cell? ⟨w.heap.size, 3, none⟩ = some (.int .i64 sx) := unhide HCL w' Bz 3 _ rfl
  have A3 : ∀ o, (w'.alloc o).cell? ⟨w.heap.size, 3, none⟩ = some (.int .i64 sx) := fun o => alloc_cell a3 o
  have a4 : w'.cell? ⟨w.heap.size, 4, none⟩ = some (.int .i64 dm) := unhide HCL w' Bz 4 _ rfl
  have A4 : ∀ o, (w'.alloc o).cell? ⟨w.heap.size, 4, none⟩ = some (.int .i64 dm) := fun o => alloc_cell a4 o
  have a5 : w'.cell? ⟨w.heap.size, 5, none⟩ = some (.int .i64 dr) := unhide HCL w' Bz 5 _ rfl
  have A5 : ∀ o, (w'.alloc o).cell? ⟨w.heap.size, 5, none⟩ = some (.int .i64 dr) := fun o => alloc_cell a5 o
  have a6 : w'.cell? ⟨w.heap.size, 6, none⟩ = some (.int .i64 dx) := unhide HCL w' Bz 6 _ rfl
  have A6 : ∀ o, (w'.alloc o).cell? ⟨w.heap.size, 6, none⟩ = some (.int .i64 dx) := fun o => alloc_cell a6 o
  have a7 : w'.cell? ⟨w.heap.size, 7, none⟩ = some (.int .i64 n) := unhide HCL w' Bz 7 _ rfl
  have A7 : ∀ o, (w'.alloc o).cell? ⟨w.heap.size, 7, none⟩ = some (.int .i64 n) := fun o => alloc_cell a7 o
  clear hb
  rw [hbk]
  have hsz := Bz.size
  rw [unhide HZ] at hsz
  have OO := hide ((own_one w' (b + n)).base (show w.heap.size + 1 ≤ w'.heap.size by omega))
  have HN : (Value.slice (some ⟨w'.heap.size, 0, none⟩) 1 1) ≠ .slice none 0 0 := by simp
  have B0 := box_step Bz (unhide HZ) ((Below.refl w'.heap.size w').alloc (Nat.le_refl _) (Obj.cells #[.int .i64 (b + n)] 3))
  have Bz := B0
  go_wp2
  go_ret
  exact ⟨(.slice (some ⟨w'.heap.size, 0, none⟩) 1 1), rfl, HN, by rw [unhide HCo, unhide HXs]; exact (unhide OO).base (by omega), unhide HB _ Bz⟩

set_option maxHeartbeats 4000000 in
theorem encS_D2 (k : Nat) (sm sr sx dm dr dx n : Int) (w : World) (hok : Is.ok ⟨(k : Int), ⟨sm, sr, sx⟩, ⟨dm, dr, dx⟩, n⟩ = true) (h1 : (k : Int) = 23) :
    Calls Try.prog 79 #[.agg #[.int .i64 (k : Int), .int .i64 sm, .int .i64 sr, .int .i64 sx, .int .i64 dm, .int .i64 dr, .int .i64 dx, .int .i64 n]] w fun e w' => ∃ v, e = .returned v ∧ v ≠ .slice none 0 0 ∧ OwnN w' w.heap.size v (Is.code ⟨(k : Int), ⟨sm, sr, sx⟩, ⟨dm, dr, dx⟩, n⟩ :: Is.xs ⟨(k : Int), ⟨sm, sr, sx⟩, ⟨dm, dr, dx⟩, n⟩) ∧ Below w.heap.size w w' := by
  obtain ⟨i0, hi, hz0, hz1, hz2⟩ := info_parts info3
  have HZ := hide (show (w.alloc (Obj.cells #[.int .i64 (k : Int), .int .i64 sm, .int .i64 sr, .int .i64 sx, .int .i64 dm, .int .i64 dr, .int .i64 dx, .int .i64 n] 92)).heap.size = w.heap.size + 1 by simp)
  have HCL := hide (box_cells w #[.int .i64 (k : Int), .int .i64 sm, .int .i64 sr, .int .i64 sx, .int .i64 dm, .int .i64 dr, .int .i64 dx, .int .i64 n] 92)
  have HB := hide (box_below w (Obj.cells #[.int .i64 (k : Int), .int .i64 sm, .int .i64 sr, .int .i64 sx, .int .i64 dm, .int .i64 dr, .int .i64 dx, .int .i64 n] 92))
  have Bz : Below (w.heap.size + 1) (w.alloc (Obj.cells #[.int .i64 (k : Int), .int .i64 sm, .int .i64 sr, .int .i64 sx, .int .i64 dm, .int .i64 dr, .int .i64 dx, .int .i64 n] 92)) (w.alloc (Obj.cells #[.int .i64 (k : Int), .int .i64 sm, .int .i64 sr, .int .i64 sx, .int .i64 dm, .int .i64 dr, .int .i64 dx, .int .i64 n] 92)) := Below.refl _ _
  obtain ⟨⟨q1, q2⟩, q3, q4, q5, q6, q7, q8, q9, q10, q11⟩ := is_ok hok
  simp only at q1 q2 q3 q4 q5 q6 q7 q8 q9 q10 q11
  have hbb := base_bd ⟨k, by omega⟩
  simp only at hbb
  obtain ⟨b, hbk⟩ : ∃ b, baseAt k = b := ⟨_, rfl⟩
  rw [hbk] at hbb
  obtain ⟨p, hp6⟩ : ∃ p, Od.six ⟨sm, sr, sx⟩ = p := ⟨_, rfl⟩
  obtain ⟨q, hq6⟩ : ∃ q, Od.six ⟨dm, dr, dx⟩ = q := ⟨_, rfl⟩
  obtain ⟨sX, hsX⟩ : ∃ q, Od.hasX ⟨sm, sr, sx⟩ = q := ⟨_, rfl⟩
  obtain ⟨dX, hdX⟩ : ∃ q, Od.hasX ⟨dm, dr, dx⟩ = q := ⟨_, rfl⟩
  have hnb : 0 ≤ n ∧ n ≤ 255 := by have := q11 (by omega); omega
  have HCo := hide (show Is.code ⟨(k : Int), ⟨sm, sr, sx⟩, ⟨dm, dr, dx⟩, n⟩ = b + n by unfold Is.code; simp only [Int.toNat_natCast, hp6, hq6, hbk]; rw [if_neg (by omega)]; rw [if_neg (by omega)]; rw [if_neg (by omega)]; rw [if_pos (by omega)])
  have HXs := hide (show Is.xs ⟨(k : Int), ⟨sm, sr, sx⟩, ⟨dm, dr, dx⟩, n⟩ = ([] : List Int) by unfold Is.xs; simp only; rw [if_neg (by omega), if_neg (by omega)]; rfl)
  have nd6 : decide ((k : Int) ≤ 6) = false := by simp; omega
  have nd14 : decide ((k : Int) ≤ 14) = false := by simp; omega
  have nd15 : decide ((k : Int) ≤ 15) = false := by simp; omega
  have ne15 : ((k : Int) == 15) = false := beq_eq_false_iff_ne.2 (by omega)
  have h16 : ((k : Int) == 16) = false := beq_eq_false_iff_ne.2 (by omega)
  have h23 : ((k : Int) == 23) = true := by simp; omega
  clear h1
  clear q3 q4 q5 q6 q8 q9 q10 q11
  go_enter Try.func79, Try.ntmps79
  go_wp2_with fail
  refine (insOk_any ⟨(k : Int), ⟨sm, sr, sx⟩, ⟨dm, dr, dx⟩, n⟩ _).mono ?_
  rintro e w' ⟨rfl, hb⟩
  have Bz := box_step Bz (unhide HZ) hb
  have a0 : w'.cell? ⟨w.heap.size, 0, none⟩ = some (.int .i64 (k : Int)) := unhide HCL w' Bz 0 _ rfl
  have A0 : ∀ o, (w'.alloc o).cell? ⟨w.heap.size, 0, none⟩ = some (.int .i64 (k : Int)) := fun o => alloc_cell a0 o
  have a1 : w'.cell? ⟨w.heap.size, 1, none⟩ = some (.int .i64 sm) := unhide HCL w' Bz 1 _ rfl
  have A1 : ∀ o, (w'.alloc o).cell? ⟨w.heap.size, 1, none⟩ = some (.int .i64 sm) := fun o => alloc_cell a1 o
  have a2 : w'.cell? ⟨w.heap.size, 2, none⟩ = some (.int .i64 sr) := unhide HCL w' Bz 2 _ rfl
  have A2 : ∀ o, (w'.alloc o).cell? ⟨w.heap.size, 2, none⟩ = some (.int .i64 sr) := fun o => alloc_cell a2 o
  have a3 : w'.cell? ⟨w.heap.size, 3, none⟩ = some (.int .i64 sx) := unhide HCL w' Bz 3 _ rfl
  have A3 : ∀ o, (w'.alloc o).cell? ⟨w.heap.size, 3, none⟩ = some (.int .i64 sx) := fun o => alloc_cell a3 o
  have a4 : w'.cell? ⟨w.heap.size, 4, none⟩ = some (.int .i64 dm) := unhide HCL w' Bz 4 _ rfl
  have A4 : ∀ o, (w'.alloc o).cell? ⟨w.heap.size, 4, none⟩ = some (.int .i64 dm) := fun o => alloc_cell a4 o
  have a5 : w'.cell? ⟨w.heap.size, 5, none⟩ = some (.int .i64 dr) := unhide HCL w' Bz 5 _ rfl
  have A5 : ∀ o, (w'.alloc o).cell? ⟨w.heap.size, 5, none⟩ = some (.int .i64 dr) := fun o => alloc_cell a5 o
  have a6 : w'.cell? ⟨w.heap.size, 6, none⟩ = some (.int .i64 dx) := unhide HCL w' Bz 6 _ rfl
  have A6 : ∀ o, (w'.alloc o).cell? ⟨w.heap.size, 6, none⟩ = some (.int .i64 dx) := fun o => alloc_cell a6 o
  have a7 : w'.cell? ⟨w.heap.size, 7, none⟩ = some (.int .i64 n) := unhide HCL w' Bz 7 _ rfl
  have A7 : ∀ o, (w'.alloc o).cell? ⟨w.heap.size, 7, none⟩ = some (.int .i64 n) := fun o => alloc_cell a7 o
  clear hb
  rw [hok]
  go_wp2_with fail
  refine (base_any k (by omega) _).mono ?_
  rintro e w' ⟨rfl, hb⟩
  have Bz := box_step Bz (unhide HZ) hb
  have a0 : w'.cell? ⟨w.heap.size, 0, none⟩ = some (.int .i64 (k : Int)) := unhide HCL w' Bz 0 _ rfl
  have A0 : ∀ o, (w'.alloc o).cell? ⟨w.heap.size, 0, none⟩ = some (.int .i64 (k : Int)) := fun o => alloc_cell a0 o
  have a1 : w'.cell? ⟨w.heap.size, 1, none⟩ = some (.int .i64 sm) := unhide HCL w' Bz 1 _ rfl
  have A1 : ∀ o, (w'.alloc o).cell? ⟨w.heap.size, 1, none⟩ = some (.int .i64 sm) := fun o => alloc_cell a1 o
  have a2 : w'.cell? ⟨w.heap.size, 2, none⟩ = some (.int .i64 sr) := unhide HCL w' Bz 2 _ rfl
  have A2 : ∀ o, (w'.alloc o).cell? ⟨w.heap.size, 2, none⟩ = some (.int .i64 sr) := fun o => alloc_cell a2 o
  have a3 : w'.cell? ⟨w.heap.size, 3, none⟩ = some (.int .i64 sx) := unhide HCL w' Bz 3 _ rfl
  have A3 : ∀ o, (w'.alloc o).cell? ⟨w.heap.size, 3, none⟩ = some (.int .i64 sx) := fun o => alloc_cell a3 o
  have a4 : w'.cell? ⟨w.heap.size, 4, none⟩ = some (.int .i64 dm) := unhide HCL w' Bz 4 _ rfl
  have A4 : ∀ o, (w'.alloc o).cell? ⟨w.heap.size, 4, none⟩ = some (.int .i64 dm) := fun o => alloc_cell a4 o
  have a5 : w'.cell? ⟨w.heap.size, 5, none⟩ = some (.int .i64 dr) := unhide HCL w' Bz 5 _ rfl
  have A5 : ∀ o, (w'.alloc o).cell? ⟨w.heap.size, 5, none⟩ = some (.int .i64 dr) := fun o => alloc_cell a5 o
  have a6 : w'.cell? ⟨w.heap.size, 6, none⟩ = some (.int .i64 dx) := unhide HCL w' Bz 6 _ rfl
  have A6 : ∀ o, (w'.alloc o).cell? ⟨w.heap.size, 6, none⟩ = some (.int .i64 dx) := fun o => alloc_cell a6 o
  have a7 : w'.cell? ⟨w.heap.size, 7, none⟩ = some (.int .i64 n) := unhide HCL w' Bz 7 _ rfl
  have A7 : ∀ o, (w'.alloc o).cell? ⟨w.heap.size, 7, none⟩ = some (.int .i64 n) := fun o => alloc_cell a7 o
  clear hb
  rw [hbk]
  have hsz := Bz.size
  rw [unhide HZ] at hsz
  have OO := hide ((own_one w' (b + n)).base (show w.heap.size + 1 ≤ w'.heap.size by omega))
  have HN : (Value.slice (some ⟨w'.heap.size, 0, none⟩) 1 1) ≠ .slice none 0 0 := by simp
  have B0 := box_step Bz (unhide HZ) ((Below.refl w'.heap.size w').alloc (Nat.le_refl _) (Obj.cells #[.int .i64 (b + n)] 3))
  have Bz := B0
  go_wp2
  go_ret
  exact ⟨(.slice (some ⟨w'.heap.size, 0, none⟩) 1 1), rfl, HN, by rw [unhide HCo, unhide HXs]; exact (unhide OO).base (by omega), unhide HB _ Bz⟩

set_option maxHeartbeats 4000000 in
theorem encS_E (k : Nat) (sm sr sx dm dr dx n : Int) (w : World) (hok : Is.ok ⟨(k : Int), ⟨sm, sr, sx⟩, ⟨dm, dr, dx⟩, n⟩ = true) (h1 : 16 < (k : Int)) (h2 : (k : Int) ≤ 21) :
    Calls Try.prog 79 #[.agg #[.int .i64 (k : Int), .int .i64 sm, .int .i64 sr, .int .i64 sx, .int .i64 dm, .int .i64 dr, .int .i64 dx, .int .i64 n]] w fun e w' => ∃ v, e = .returned v ∧ v ≠ .slice none 0 0 ∧ OwnN w' w.heap.size v (Is.code ⟨(k : Int), ⟨sm, sr, sx⟩, ⟨dm, dr, dx⟩, n⟩ :: Is.xs ⟨(k : Int), ⟨sm, sr, sx⟩, ⟨dm, dr, dx⟩, n⟩) ∧ Below w.heap.size w w' := by
  obtain ⟨i0, hi, hz0, hz1, hz2⟩ := info_parts info3
  have HZ := hide (show (w.alloc (Obj.cells #[.int .i64 (k : Int), .int .i64 sm, .int .i64 sr, .int .i64 sx, .int .i64 dm, .int .i64 dr, .int .i64 dx, .int .i64 n] 92)).heap.size = w.heap.size + 1 by simp)
  have HCL := hide (box_cells w #[.int .i64 (k : Int), .int .i64 sm, .int .i64 sr, .int .i64 sx, .int .i64 dm, .int .i64 dr, .int .i64 dx, .int .i64 n] 92)
  have HB := hide (box_below w (Obj.cells #[.int .i64 (k : Int), .int .i64 sm, .int .i64 sr, .int .i64 sx, .int .i64 dm, .int .i64 dr, .int .i64 dx, .int .i64 n] 92))
  have Bz : Below (w.heap.size + 1) (w.alloc (Obj.cells #[.int .i64 (k : Int), .int .i64 sm, .int .i64 sr, .int .i64 sx, .int .i64 dm, .int .i64 dr, .int .i64 dx, .int .i64 n] 92)) (w.alloc (Obj.cells #[.int .i64 (k : Int), .int .i64 sm, .int .i64 sr, .int .i64 sx, .int .i64 dm, .int .i64 dr, .int .i64 dx, .int .i64 n] 92)) := Below.refl _ _
  obtain ⟨⟨q1, q2⟩, q3, q4, q5, q6, q7, q8, q9, q10, q11⟩ := is_ok hok
  simp only at q1 q2 q3 q4 q5 q6 q7 q8 q9 q10 q11
  have hbb := base_bd ⟨k, by omega⟩
  simp only at hbb
  obtain ⟨b, hbk⟩ : ∃ b, baseAt k = b := ⟨_, rfl⟩
  rw [hbk] at hbb
  obtain ⟨p, hp6⟩ : ∃ p, Od.six ⟨sm, sr, sx⟩ = p := ⟨_, rfl⟩
  obtain ⟨q, hq6⟩ : ∃ q, Od.six ⟨dm, dr, dx⟩ = q := ⟨_, rfl⟩
  obtain ⟨sX, hsX⟩ : ∃ q, Od.hasX ⟨sm, sr, sx⟩ = q := ⟨_, rfl⟩
  obtain ⟨dX, hdX⟩ : ∃ q, Od.hasX ⟨dm, dr, dx⟩ = q := ⟨_, rfl⟩
  have HCo := hide (show Is.code ⟨(k : Int), ⟨sm, sr, sx⟩, ⟨dm, dr, dx⟩, n⟩ = b + n % 256 by unfold Is.code; simp only [Int.toNat_natCast, hp6, hq6, hbk]; rw [if_neg (by omega)]; rw [if_neg (by omega)]; rw [if_neg (by omega)]; rw [if_neg (by omega)]; rw [if_pos (by omega)])
  have HXs := hide (show Is.xs ⟨(k : Int), ⟨sm, sr, sx⟩, ⟨dm, dr, dx⟩, n⟩ = ([] : List Int) by unfold Is.xs; simp only; rw [if_neg (by omega), if_neg (by omega)]; rfl)
  have hle : (k : Int) ≤ 21 := h2
  have h255 := i64_and255 n
  have nd6 : decide ((k : Int) ≤ 6) = false := by simp; omega
  have nd14 : decide ((k : Int) ≤ 14) = false := by simp; omega
  have nd15 : decide ((k : Int) ≤ 15) = false := by simp; omega
  have ne15 : ((k : Int) == 15) = false := beq_eq_false_iff_ne.2 (by omega)
  have ne16 : ((k : Int) == 16) = false := beq_eq_false_iff_ne.2 (by omega)
  have ne23 : ((k : Int) == 23) = false := beq_eq_false_iff_ne.2 (by omega)
  clear h1 h2
  clear q3 q4 q5 q6 q8 q9 q10 q11
  go_enter Try.func79, Try.ntmps79
  go_wp2_with fail
  refine (insOk_any ⟨(k : Int), ⟨sm, sr, sx⟩, ⟨dm, dr, dx⟩, n⟩ _).mono ?_
  rintro e w' ⟨rfl, hb⟩
  have Bz := box_step Bz (unhide HZ) hb
  have a0 : w'.cell? ⟨w.heap.size, 0, none⟩ = some (.int .i64 (k : Int)) := unhide HCL w' Bz 0 _ rfl
  have A0 : ∀ o, (w'.alloc o).cell? ⟨w.heap.size, 0, none⟩ = some (.int .i64 (k : Int)) := fun o => alloc_cell a0 o
  have a1 : w'.cell? ⟨w.heap.size, 1, none⟩ = some (.int .i64 sm) := unhide HCL w' Bz 1 _ rfl
  have A1 : ∀ o, (w'.alloc o).cell? ⟨w.heap.size, 1, none⟩ = some (.int .i64 sm) := fun o => alloc_cell a1 o
  have a2 : w'.cell? ⟨w.heap.size, 2, none⟩ = some (.int .i64 sr) := unhide HCL w' Bz 2 _ rfl
  have A2 : ∀ o, (w'.alloc o).cell? ⟨w.heap.size, 2, none⟩ = some (.int .i64 sr) := fun o => alloc_cell a2 o
  have a3 : w'.cell? ⟨w.heap.size, 3, none⟩ = some (.int .i64 sx) := unhide HCL w' Bz 3 _ rfl
  have A3 : ∀ o, (w'.alloc o).cell? ⟨w.heap.size, 3, none⟩ = some (.int .i64 sx) := fun o => alloc_cell a3 o
  have a4 : w'.cell? ⟨w.heap.size, 4, none⟩ = some (.int .i64 dm) := unhide HCL w' Bz 4 _ rfl
  have A4 : ∀ o, (w'.alloc o).cell? ⟨w.heap.size, 4, none⟩ = some (.int .i64 dm) := fun o => alloc_cell a4 o
  have a5 : w'.cell? ⟨w.heap.size, 5, none⟩ = some (.int .i64 dr) := unhide HCL w' Bz 5 _ rfl
  have A5 : ∀ o, (w'.alloc o).cell? ⟨w.heap.size, 5, none⟩ = some (.int .i64 dr) := fun o => alloc_cell a5 o
  have a6 : w'.cell? ⟨w.heap.size, 6, none⟩ = some (.int .i64 dx) := unhide HCL w' Bz 6 _ rfl
  have A6 : ∀ o, (w'.alloc o).cell? ⟨w.heap.size, 6, none⟩ = some (.int .i64 dx) := fun o => alloc_cell a6 o
  have a7 : w'.cell? ⟨w.heap.size, 7, none⟩ = some (.int .i64 n) := unhide HCL w' Bz 7 _ rfl
  have A7 : ∀ o, (w'.alloc o).cell? ⟨w.heap.size, 7, none⟩ = some (.int .i64 n) := fun o => alloc_cell a7 o
  clear hb
  rw [hok]
  go_wp2_with fail
  refine (base_any k (by omega) _).mono ?_
  rintro e w' ⟨rfl, hb⟩
  have Bz := box_step Bz (unhide HZ) hb
  have a0 : w'.cell? ⟨w.heap.size, 0, none⟩ = some (.int .i64 (k : Int)) := unhide HCL w' Bz 0 _ rfl
  have A0 : ∀ o, (w'.alloc o).cell? ⟨w.heap.size, 0, none⟩ = some (.int .i64 (k : Int)) := fun o => alloc_cell a0 o
  have a1 : w'.cell? ⟨w.heap.size, 1, none⟩ = some (.int .i64 sm) := unhide HCL w' Bz 1 _ rfl
  have A1 : ∀ o, (w'.alloc o).cell? ⟨w.heap.size, 1, none⟩ = some (.int .i64 sm) := fun o => alloc_cell a1 o
  have a2 : w'.cell? ⟨w.heap.size, 2, none⟩ = some (.int .i64 sr) := unhide HCL w' Bz 2 _ rfl
  have A2 : ∀ o, (w'.alloc o).cell? ⟨w.heap.size, 2, none⟩ = some (.int .i64 sr) := fun o => alloc_cell a2 o
  have a3 : w'.cell? ⟨w.heap.size, 3, none⟩ = some (.int .i64 sx) := unhide HCL w' Bz 3 _ rfl
  have A3 : ∀ o, (w'.alloc o).cell? ⟨w.heap.size, 3, none⟩ = some (.int .i64 sx) := fun o => alloc_cell a3 o
  have a4 : w'.cell? ⟨w.heap.size, 4, none⟩ = some (.int .i64 dm) := unhide HCL w' Bz 4 _ rfl
  have A4 : ∀ o, (w'.alloc o).cell? ⟨w.heap.size, 4, none⟩ = some (.int .i64 dm) := fun o => alloc_cell a4 o
  have a5 : w'.cell? ⟨w.heap.size, 5, none⟩ = some (.int .i64 dr) := unhide HCL w' Bz 5 _ rfl
  have A5 : ∀ o, (w'.alloc o).cell? ⟨w.heap.size, 5, none⟩ = some (.int .i64 dr) := fun o => alloc_cell a5 o
  have a6 : w'.cell? ⟨w.heap.size, 6, none⟩ = some (.int .i64 dx) := unhide HCL w' Bz 6 _ rfl
  have A6 : ∀ o, (w'.alloc o).cell? ⟨w.heap.size, 6, none⟩ = some (.int .i64 dx) := fun o => alloc_cell a6 o
  have a7 : w'.cell? ⟨w.heap.size, 7, none⟩ = some (.int .i64 n) := unhide HCL w' Bz 7 _ rfl
  have A7 : ∀ o, (w'.alloc o).cell? ⟨w.heap.size, 7, none⟩ = some (.int .i64 n) := fun o => alloc_cell a7 o
  clear hb
  rw [hbk]
  have hsz := Bz.size
  rw [unhide HZ] at hsz
  have OO := hide ((own_one w' (b + n % 256)).base (show w.heap.size + 1 ≤ w'.heap.size by omega))
  have HN : (Value.slice (some ⟨w'.heap.size, 0, none⟩) 1 1) ≠ .slice none 0 0 := by simp
  have B0 := box_step Bz (unhide HZ) ((Below.refl w'.heap.size w').alloc (Nat.le_refl _) (Obj.cells #[.int .i64 (b + n % 256)] 3))
  have Bz := B0
  go_wp2
  go_ret
  exact ⟨(.slice (some ⟨w'.heap.size, 0, none⟩) 1 1), rfl, HN, by rw [unhide HCo, unhide HXs]; exact (unhide OO).base (by omega), unhide HB _ Bz⟩

set_option maxHeartbeats 4000000 in
theorem encS_F (k : Nat) (sm sr sx dm dr dx n : Int) (w : World) (hok : Is.ok ⟨(k : Int), ⟨sm, sr, sx⟩, ⟨dm, dr, dx⟩, n⟩ = true) (h1 : (k : Int) = 22) :
    Calls Try.prog 79 #[.agg #[.int .i64 (k : Int), .int .i64 sm, .int .i64 sr, .int .i64 sx, .int .i64 dm, .int .i64 dr, .int .i64 dx, .int .i64 n]] w fun e w' => ∃ v, e = .returned v ∧ v ≠ .slice none 0 0 ∧ OwnN w' w.heap.size v (Is.code ⟨(k : Int), ⟨sm, sr, sx⟩, ⟨dm, dr, dx⟩, n⟩ :: Is.xs ⟨(k : Int), ⟨sm, sr, sx⟩, ⟨dm, dr, dx⟩, n⟩) ∧ Below w.heap.size w w' := by
  obtain ⟨i0, hi, hz0, hz1, hz2⟩ := info_parts info3
  have HZ := hide (show (w.alloc (Obj.cells #[.int .i64 (k : Int), .int .i64 sm, .int .i64 sr, .int .i64 sx, .int .i64 dm, .int .i64 dr, .int .i64 dx, .int .i64 n] 92)).heap.size = w.heap.size + 1 by simp)
  have HCL := hide (box_cells w #[.int .i64 (k : Int), .int .i64 sm, .int .i64 sr, .int .i64 sx, .int .i64 dm, .int .i64 dr, .int .i64 dx, .int .i64 n] 92)
  have HB := hide (box_below w (Obj.cells #[.int .i64 (k : Int), .int .i64 sm, .int .i64 sr, .int .i64 sx, .int .i64 dm, .int .i64 dr, .int .i64 dx, .int .i64 n] 92))
  have Bz : Below (w.heap.size + 1) (w.alloc (Obj.cells #[.int .i64 (k : Int), .int .i64 sm, .int .i64 sr, .int .i64 sx, .int .i64 dm, .int .i64 dr, .int .i64 dx, .int .i64 n] 92)) (w.alloc (Obj.cells #[.int .i64 (k : Int), .int .i64 sm, .int .i64 sr, .int .i64 sx, .int .i64 dm, .int .i64 dr, .int .i64 dx, .int .i64 n] 92)) := Below.refl _ _
  obtain ⟨⟨q1, q2⟩, q3, q4, q5, q6, q7, q8, q9, q10, q11⟩ := is_ok hok
  simp only at q1 q2 q3 q4 q5 q6 q7 q8 q9 q10 q11
  have hbb := base_bd ⟨k, by omega⟩
  simp only at hbb
  obtain ⟨b, hbk⟩ : ∃ b, baseAt k = b := ⟨_, rfl⟩
  rw [hbk] at hbb
  obtain ⟨p, hp6⟩ : ∃ p, Od.six ⟨sm, sr, sx⟩ = p := ⟨_, rfl⟩
  obtain ⟨q, hq6⟩ : ∃ q, Od.six ⟨dm, dr, dx⟩ = q := ⟨_, rfl⟩
  obtain ⟨sX, hsX⟩ : ∃ q, Od.hasX ⟨sm, sr, sx⟩ = q := ⟨_, rfl⟩
  obtain ⟨dX, hdX⟩ : ∃ q, Od.hasX ⟨dm, dr, dx⟩ = q := ⟨_, rfl⟩
  have HCo := hide (show Is.code ⟨(k : Int), ⟨sm, sr, sx⟩, ⟨dm, dr, dx⟩, n⟩ = b by unfold Is.code; simp only [Int.toNat_natCast, hp6, hq6, hbk]; rw [if_neg (by omega)]; rw [if_neg (by omega)]; rw [if_neg (by omega)]; rw [if_neg (by omega)]; rw [if_neg (by omega)])
  have HXs := hide (show Is.xs ⟨(k : Int), ⟨sm, sr, sx⟩, ⟨dm, dr, dx⟩, n⟩ = ([] : List Int) by unfold Is.xs; simp only; rw [if_neg (by omega), if_neg (by omega)]; rfl)
  have nd6 : decide ((k : Int) ≤ 6) = false := by simp; omega
  have nd14 : decide ((k : Int) ≤ 14) = false := by simp; omega
  have nd15 : decide ((k : Int) ≤ 15) = false := by simp; omega
  have nd21 : decide ((k : Int) ≤ 21) = false := by simp; omega
  have ne15 : ((k : Int) == 15) = false := beq_eq_false_iff_ne.2 (by omega)
  have ne16 : ((k : Int) == 16) = false := beq_eq_false_iff_ne.2 (by omega)
  have ne23 : ((k : Int) == 23) = false := beq_eq_false_iff_ne.2 (by omega)
  clear h1
  clear q3 q4 q5 q6 q8 q9 q10 q11
  go_enter Try.func79, Try.ntmps79
  go_wp2_with fail
  refine (insOk_any ⟨(k : Int), ⟨sm, sr, sx⟩, ⟨dm, dr, dx⟩, n⟩ _).mono ?_
  rintro e w' ⟨rfl, hb⟩
  have Bz := box_step Bz (unhide HZ) hb
  have a0 : w'.cell? ⟨w.heap.size, 0, none⟩ = some (.int .i64 (k : Int)) := unhide HCL w' Bz 0 _ rfl
  have A0 : ∀ o, (w'.alloc o).cell? ⟨w.heap.size, 0, none⟩ = some (.int .i64 (k : Int)) := fun o => alloc_cell a0 o
  have a1 : w'.cell? ⟨w.heap.size, 1, none⟩ = some (.int .i64 sm) := unhide HCL w' Bz 1 _ rfl
  have A1 : ∀ o, (w'.alloc o).cell? ⟨w.heap.size, 1, none⟩ = some (.int .i64 sm) := fun o => alloc_cell a1 o
  have a2 : w'.cell? ⟨w.heap.size, 2, none⟩ = some (.int .i64 sr) := unhide HCL w' Bz 2 _ rfl
  have A2 : ∀ o, (w'.alloc o).cell? ⟨w.heap.size, 2, none⟩ = some (.int .i64 sr) := fun o => alloc_cell a2 o
  have a3 : w'.cell? ⟨w.heap.size, 3, none⟩ = some (.int .i64 sx) := unhide HCL w' Bz 3 _ rfl
  have A3 : ∀ o, (w'.alloc o).cell? ⟨w.heap.size, 3, none⟩ = some (.int .i64 sx) := fun o => alloc_cell a3 o
  have a4 : w'.cell? ⟨w.heap.size, 4, none⟩ = some (.int .i64 dm) := unhide HCL w' Bz 4 _ rfl
  have A4 : ∀ o, (w'.alloc o).cell? ⟨w.heap.size, 4, none⟩ = some (.int .i64 dm) := fun o => alloc_cell a4 o
  have a5 : w'.cell? ⟨w.heap.size, 5, none⟩ = some (.int .i64 dr) := unhide HCL w' Bz 5 _ rfl
  have A5 : ∀ o, (w'.alloc o).cell? ⟨w.heap.size, 5, none⟩ = some (.int .i64 dr) := fun o => alloc_cell a5 o
  have a6 : w'.cell? ⟨w.heap.size, 6, none⟩ = some (.int .i64 dx) := unhide HCL w' Bz 6 _ rfl
  have A6 : ∀ o, (w'.alloc o).cell? ⟨w.heap.size, 6, none⟩ = some (.int .i64 dx) := fun o => alloc_cell a6 o
  have a7 : w'.cell? ⟨w.heap.size, 7, none⟩ = some (.int .i64 n) := unhide HCL w' Bz 7 _ rfl
  have A7 : ∀ o, (w'.alloc o).cell? ⟨w.heap.size, 7, none⟩ = some (.int .i64 n) := fun o => alloc_cell a7 o
  clear hb
  rw [hok]
  go_wp2_with fail
  refine (base_any k (by omega) _).mono ?_
  rintro e w' ⟨rfl, hb⟩
  have Bz := box_step Bz (unhide HZ) hb
  have a0 : w'.cell? ⟨w.heap.size, 0, none⟩ = some (.int .i64 (k : Int)) := unhide HCL w' Bz 0 _ rfl
  have A0 : ∀ o, (w'.alloc o).cell? ⟨w.heap.size, 0, none⟩ = some (.int .i64 (k : Int)) := fun o => alloc_cell a0 o
  have a1 : w'.cell? ⟨w.heap.size, 1, none⟩ = some (.int .i64 sm) := unhide HCL w' Bz 1 _ rfl
  have A1 : ∀ o, (w'.alloc o).cell? ⟨w.heap.size, 1, none⟩ = some (.int .i64 sm) := fun o => alloc_cell a1 o
  have a2 : w'.cell? ⟨w.heap.size, 2, none⟩ = some (.int .i64 sr) := unhide HCL w' Bz 2 _ rfl
  have A2 : ∀ o, (w'.alloc o).cell? ⟨w.heap.size, 2, none⟩ = some (.int .i64 sr) := fun o => alloc_cell a2 o
  have a3 : w'.cell? ⟨w.heap.size, 3, none⟩ = some (.int .i64 sx) := unhide HCL w' Bz 3 _ rfl
  have A3 : ∀ o, (w'.alloc o).cell? ⟨w.heap.size, 3, none⟩ = some (.int .i64 sx) := fun o => alloc_cell a3 o
  have a4 : w'.cell? ⟨w.heap.size, 4, none⟩ = some (.int .i64 dm) := unhide HCL w' Bz 4 _ rfl
  have A4 : ∀ o, (w'.alloc o).cell? ⟨w.heap.size, 4, none⟩ = some (.int .i64 dm) := fun o => alloc_cell a4 o
  have a5 : w'.cell? ⟨w.heap.size, 5, none⟩ = some (.int .i64 dr) := unhide HCL w' Bz 5 _ rfl
  have A5 : ∀ o, (w'.alloc o).cell? ⟨w.heap.size, 5, none⟩ = some (.int .i64 dr) := fun o => alloc_cell a5 o
  have a6 : w'.cell? ⟨w.heap.size, 6, none⟩ = some (.int .i64 dx) := unhide HCL w' Bz 6 _ rfl
  have A6 : ∀ o, (w'.alloc o).cell? ⟨w.heap.size, 6, none⟩ = some (.int .i64 dx) := fun o => alloc_cell a6 o
  have a7 : w'.cell? ⟨w.heap.size, 7, none⟩ = some (.int .i64 n) := unhide HCL w' Bz 7 _ rfl
  have A7 : ∀ o, (w'.alloc o).cell? ⟨w.heap.size, 7, none⟩ = some (.int .i64 n) := fun o => alloc_cell a7 o
  clear hb
  rw [hbk]
  have hsz := Bz.size
  rw [unhide HZ] at hsz
  have OO := hide ((own_one w' (b)).base (show w.heap.size + 1 ≤ w'.heap.size by omega))
  have HN : (Value.slice (some ⟨w'.heap.size, 0, none⟩) 1 1) ≠ .slice none 0 0 := by simp
  have B0 := box_step Bz (unhide HZ) ((Below.refl w'.heap.size w').alloc (Nat.le_refl _) (Obj.cells #[.int .i64 (b)] 3))
  have Bz := B0
  go_wp2
  go_ret
  exact ⟨(.slice (some ⟨w'.heap.size, 0, none⟩) 1 1), rfl, HN, by rw [unhide HCo, unhide HXs]; exact (unhide OO).base (by omega), unhide HB _ Bz⟩

end Go.Proofs.Ytfkmibgamkignaa
