/- Contracts over this seat's translation, laid together; conditions stand as hypotheses of each. -/
import Derived.Test.YtjpbjbnialehbaaGreatDoorSsQ
import Derived.Laws.EntriesVeiled
namespace Go.Proofs.YtjpbjbnialehbaaGreatDoor
open Go.ChangeShapes Go.WideShapes Go.ChangeAt Go.RowKit
set_option maxHeartbeats 16000000
set_option linter.unusedVariables false
set_option linter.unusedSimpArgs false
theorem insOkI_any (i : Is) (w : World) : Calls Tryz.prog 59 #[i.v] w fun e w' => e = .returned (.bool i.ok) ∧ Below w.heap.size w w' := by
 rw [← okI_eq]
 obtain ⟨op, ⟨sm, sr, sx⟩, ⟨dm, dr, dx⟩, n⟩ := i
 have HS := hide (box_below w (Obj.cells #[.int .i64 op, .int .i64 sm, .int .i64 sr, .int .i64 sx, .int .i64 dm, .int .i64 dr, .int .i64 dx, .int .i64 n] 69))
 have HZ := hide (show w.heap.size + 1 ≤ (w.alloc (Obj.cells #[.int .i64 op, .int .i64 sm, .int .i64 sr, .int .i64 sx, .int .i64 dm, .int .i64 dr, .int .i64 dx, .int .i64 n] 69)).heap.size by simp)
 have ne := Sub.ne (w.heap.size + 1) (w.alloc (Obj.cells #[.int .i64 op, .int .i64 sm, .int .i64 sr, .int .i64 sx, .int .i64 dm, .int .i64 dr, .int .i64 dx, .int .i64 n] 69))
 have c0 : ∀ y : Sub (w.heap.size + 1) (w.alloc (Obj.cells #[.int .i64 op, .int .i64 sm, .int .i64 sr, .int .i64 sx, .int .i64 dm, .int .i64 dr, .int .i64 dx, .int .i64 n] 69)), y.w.cell? ⟨w.heap.size, 0, none⟩ = some (.int .i64 op) := fun y => y.cells 0 _ rfl
 have c1 : ∀ y : Sub (w.heap.size + 1) (w.alloc (Obj.cells #[.int .i64 op, .int .i64 sm, .int .i64 sr, .int .i64 sx, .int .i64 dm, .int .i64 dr, .int .i64 dx, .int .i64 n] 69)), y.w.cell? ⟨w.heap.size, 1, none⟩ = some (.int .i64 sm) := fun y => y.cells 1 _ rfl
 have c2 : ∀ y : Sub (w.heap.size + 1) (w.alloc (Obj.cells #[.int .i64 op, .int .i64 sm, .int .i64 sr, .int .i64 sx, .int .i64 dm, .int .i64 dr, .int .i64 dx, .int .i64 n] 69)), y.w.cell? ⟨w.heap.size, 2, none⟩ = some (.int .i64 sr) := fun y => y.cells 2 _ rfl
 have c3 : ∀ y : Sub (w.heap.size + 1) (w.alloc (Obj.cells #[.int .i64 op, .int .i64 sm, .int .i64 sr, .int .i64 sx, .int .i64 dm, .int .i64 dr, .int .i64 dx, .int .i64 n] 69)), y.w.cell? ⟨w.heap.size, 3, none⟩ = some (.int .i64 sx) := fun y => y.cells 3 _ rfl
 have c4 : ∀ y : Sub (w.heap.size + 1) (w.alloc (Obj.cells #[.int .i64 op, .int .i64 sm, .int .i64 sr, .int .i64 sx, .int .i64 dm, .int .i64 dr, .int .i64 dx, .int .i64 n] 69)), y.w.cell? ⟨w.heap.size, 4, none⟩ = some (.int .i64 dm) := fun y => y.cells 4 _ rfl
 have c5 : ∀ y : Sub (w.heap.size + 1) (w.alloc (Obj.cells #[.int .i64 op, .int .i64 sm, .int .i64 sr, .int .i64 sx, .int .i64 dm, .int .i64 dr, .int .i64 dx, .int .i64 n] 69)), y.w.cell? ⟨w.heap.size, 5, none⟩ = some (.int .i64 dr) := fun y => y.cells 5 _ rfl
 have c6 : ∀ y : Sub (w.heap.size + 1) (w.alloc (Obj.cells #[.int .i64 op, .int .i64 sm, .int .i64 sr, .int .i64 sx, .int .i64 dm, .int .i64 dr, .int .i64 dx, .int .i64 n] 69)), y.w.cell? ⟨w.heap.size, 6, none⟩ = some (.int .i64 dx) := fun y => y.cells 6 _ rfl
 have c7 : ∀ y : Sub (w.heap.size + 1) (w.alloc (Obj.cells #[.int .i64 op, .int .i64 sm, .int .i64 sr, .int .i64 sx, .int .i64 dm, .int .i64 dr, .int .i64 dx, .int .i64 n] 69)), y.w.cell? ⟨w.heap.size, 7, none⟩ = some (.int .i64 n) := fun y => y.cells 7 _ rfl
 have FS := hide (fun b w => fits_any ⟨sm, sr, sx⟩ b w)
 have FD := hide (fun b w => fits_any ⟨dm, dr, dx⟩ b w)
 unfold Is.okI
 simp only
 obtain ⟨qs, hqs⟩ : ∃ q, Od.fits ⟨sm, sr, sx⟩ (inB op 1 6) = q := ⟨_, rfl⟩
 obtain ⟨qd, hqd⟩ : ∃ q, Od.fits ⟨dm, dr, dx⟩ (inB op 1 15) = q := ⟨_, rfl⟩
 rw [hqs, hqd]
 have FS' := hide (show ∀ w, Calls Tryz.prog 104 #[Od.v ⟨sm, sr, sx⟩, .bool (inB op 1 6)] w fun e w' => e = .returned (.bool qs) ∧ Below w.heap.size w w' from fun w => by rw [← hqs]; exact uh FS _ w)
 have FD' := hide (show ∀ w, Calls Tryz.prog 104 #[Od.v ⟨dm, dr, dx⟩, .bool (inB op 1 15)] w fun e w' => e = .returned (.bool qd) ∧ Below w.heap.size w w' from fun w => by rw [← hqd]; exact uh FD _ w)
 clear FS FD hqs hqd
 unfold Od.v at FS' FD'
 simp only at FS' FD'
 have F1 := hide (fun w => hasSrc_any op w)
 have F2 := hide (fun w => hasDst_any op w)
 generalize inB op 1 6 = p1 at F1 FS' ⊢
 generalize inB op 1 15 = p2 at F2 FD' ⊢
 generalize hlo : loN op = lo
 generalize hhi : hiN op = hi
 have BN := hide (fun w => bounds_any op w)
 rw [hlo, hhi] at BN
 clear hlo hhi
 unfold Is.v
 simp only
 cases h1 : decide (op < 1)
 ·
  cases h2 : decide (23 < op)
  ·
   have hin : inB op 1 23 = true := inB_tQ _ _ _ (by simp at h1 h2; omega)
   rw [hin, Bool.true_and]
   clear hin
   cases qs
   ·
    go_enter Tryz.func59, Tryz.ntmps59
    go_wp2_with (go_at_call 103; refine (uh BN _).mono ?_; rintro e w' ⟨rfl, hw'⟩; rw [hw']; clear hw' w')
    refine wp_region_sub (Sub.top w (Obj.cells #[.int .i64 op, .int .i64 sm, .int .i64 sr, .int .i64 sx, .int .i64 dm, .int .i64 dr, .int .i64 dx, .int .i64 n] 69)) (by kernel_rfl) (by kernel_rfl) ?_
    repeat (go_big_quiet_step (first | (go_at_call 101; exact Sub.same (uh F1 _)) | (go_at_call 102; exact Sub.same (uh F2 _)) | (go_at_call_of 104 sm; exact Sub.call (uh HZ) (uh FS' _)) | (go_at_call_of 104 dm; exact Sub.call (uh HZ) (uh FD' _))))
    refine wpQuiet_nil ?_
    intro y
    go_wp2
    go_ret
    exact ⟨rfl, uh HS _ y.h⟩
   ·
    cases qd
    ·
     go_enter Tryz.func59, Tryz.ntmps59
     go_wp2_with (go_at_call 103; refine (uh BN _).mono ?_; rintro e w' ⟨rfl, hw'⟩; rw [hw']; clear hw' w')
     refine wp_region_sub (Sub.top w (Obj.cells #[.int .i64 op, .int .i64 sm, .int .i64 sr, .int .i64 sx, .int .i64 dm, .int .i64 dr, .int .i64 dx, .int .i64 n] 69)) (by kernel_rfl) (by kernel_rfl) ?_
     repeat (go_big_quiet_step (first | (go_at_call 101; exact Sub.same (uh F1 _)) | (go_at_call 102; exact Sub.same (uh F2 _)) | (go_at_call_of 104 sm; exact Sub.call (uh HZ) (uh FS' _)) | (go_at_call_of 104 dm; exact Sub.call (uh HZ) (uh FD' _))))
     refine wpQuiet_nil ?_
     intro y
     go_wp2
     go_ret
     exact ⟨rfl, uh HS _ y.h⟩
    ·
     cases h3 : decide (lo ≤ n)
     ·
      go_enter Tryz.func59, Tryz.ntmps59
      go_wp2_with (go_at_call 103; refine (uh BN _).mono ?_; rintro e w' ⟨rfl, hw'⟩; rw [hw']; clear hw' w')
      refine wp_region_sub (Sub.top w (Obj.cells #[.int .i64 op, .int .i64 sm, .int .i64 sr, .int .i64 sx, .int .i64 dm, .int .i64 dr, .int .i64 dx, .int .i64 n] 69)) (by kernel_rfl) (by kernel_rfl) ?_
      repeat (go_big_quiet_step (first | (go_at_call 101; exact Sub.same (uh F1 _)) | (go_at_call 102; exact Sub.same (uh F2 _)) | (go_at_call_of 104 sm; exact Sub.call (uh HZ) (uh FS' _)) | (go_at_call_of 104 dm; exact Sub.call (uh HZ) (uh FD' _))))
      refine wpQuiet_nil ?_
      intro y
      go_wp2
      go_ret
      exact ⟨rfl, uh HS _ y.h⟩
     ·
      cases h4 : decide (n ≤ hi)
      ·
       go_enter Tryz.func59, Tryz.ntmps59
       go_wp2_with (go_at_call 103; refine (uh BN _).mono ?_; rintro e w' ⟨rfl, hw'⟩; rw [hw']; clear hw' w')
       refine wp_region_sub (Sub.top w (Obj.cells #[.int .i64 op, .int .i64 sm, .int .i64 sr, .int .i64 sx, .int .i64 dm, .int .i64 dr, .int .i64 dx, .int .i64 n] 69)) (by kernel_rfl) (by kernel_rfl) ?_
       repeat (go_big_quiet_step (first | (go_at_call 101; exact Sub.same (uh F1 _)) | (go_at_call 102; exact Sub.same (uh F2 _)) | (go_at_call_of 104 sm; exact Sub.call (uh HZ) (uh FS' _)) | (go_at_call_of 104 dm; exact Sub.call (uh HZ) (uh FD' _))))
       refine wpQuiet_nil ?_
       intro y
       go_wp2
       go_ret
       exact ⟨rfl, uh HS _ y.h⟩
      ·
       go_enter Tryz.func59, Tryz.ntmps59
       go_wp2_with (go_at_call 103; refine (uh BN _).mono ?_; rintro e w' ⟨rfl, hw'⟩; rw [hw']; clear hw' w')
       refine wp_region_sub (Sub.top w (Obj.cells #[.int .i64 op, .int .i64 sm, .int .i64 sr, .int .i64 sx, .int .i64 dm, .int .i64 dr, .int .i64 dx, .int .i64 n] 69)) (by kernel_rfl) (by kernel_rfl) ?_
       repeat (go_big_quiet_step (first | (go_at_call 101; exact Sub.same (uh F1 _)) | (go_at_call 102; exact Sub.same (uh F2 _)) | (go_at_call_of 104 sm; exact Sub.call (uh HZ) (uh FS' _)) | (go_at_call_of 104 dm; exact Sub.call (uh HZ) (uh FD' _))))
       refine wpQuiet_nil ?_
       intro y
       go_wp2
       go_ret
       exact ⟨rfl, uh HS _ y.h⟩
  ·
   have hin : inB op 1 23 = false := inB_fQ _ _ _ (by simp at *; omega)
   rw [hin, Bool.false_and]
   clear hin
   go_enter Tryz.func59, Tryz.ntmps59
   go_wp2
   go_ret
   exact ⟨rfl, uh HS _ (Below.refl _ _)⟩
 ·
  have hin : inB op 1 23 = false := inB_fQ _ _ _ (by simp at *; omega)
  rw [hin, Bool.false_and]
  clear hin
  go_enter Tryz.func59, Tryz.ntmps59
  go_wp2
  go_ret
  exact ⟨rfl, uh HS _ (Below.refl _ _)⟩
theorem wordsI_anyQ (i : Is) (w : World) : Calls Tryz.prog 57 #[i.v] w fun e w' => e = .returned (.int .i64 i.words) ∧ Below w.heap.size w w' := by
 obtain ⟨op, ⟨sm, sr, sx⟩, ⟨dm, dr, dx⟩, n⟩ := i
 have HS := hide (box_below w (Obj.cells #[.int .i64 op, .int .i64 sm, .int .i64 sr, .int .i64 sx, .int .i64 dm, .int .i64 dr, .int .i64 dx, .int .i64 n] 69))
 have HZ := hide (show w.heap.size + 1 ≤ (w.alloc (Obj.cells #[.int .i64 op, .int .i64 sm, .int .i64 sr, .int .i64 sx, .int .i64 dm, .int .i64 dr, .int .i64 dx, .int .i64 n] 69)).heap.size by simp)
 have ne := Sub.ne (w.heap.size + 1) (w.alloc (Obj.cells #[.int .i64 op, .int .i64 sm, .int .i64 sr, .int .i64 sx, .int .i64 dm, .int .i64 dr, .int .i64 dx, .int .i64 n] 69))
 have c0 : ∀ y : Sub (w.heap.size + 1) (w.alloc (Obj.cells #[.int .i64 op, .int .i64 sm, .int .i64 sr, .int .i64 sx, .int .i64 dm, .int .i64 dr, .int .i64 dx, .int .i64 n] 69)), y.w.cell? ⟨w.heap.size, 0, none⟩ = some (.int .i64 op) := fun y => y.cells 0 _ rfl
 have c1 : ∀ y : Sub (w.heap.size + 1) (w.alloc (Obj.cells #[.int .i64 op, .int .i64 sm, .int .i64 sr, .int .i64 sx, .int .i64 dm, .int .i64 dr, .int .i64 dx, .int .i64 n] 69)), y.w.cell? ⟨w.heap.size, 1, none⟩ = some (.int .i64 sm) := fun y => y.cells 1 _ rfl
 have c2 : ∀ y : Sub (w.heap.size + 1) (w.alloc (Obj.cells #[.int .i64 op, .int .i64 sm, .int .i64 sr, .int .i64 sx, .int .i64 dm, .int .i64 dr, .int .i64 dx, .int .i64 n] 69)), y.w.cell? ⟨w.heap.size, 2, none⟩ = some (.int .i64 sr) := fun y => y.cells 2 _ rfl
 have c3 : ∀ y : Sub (w.heap.size + 1) (w.alloc (Obj.cells #[.int .i64 op, .int .i64 sm, .int .i64 sr, .int .i64 sx, .int .i64 dm, .int .i64 dr, .int .i64 dx, .int .i64 n] 69)), y.w.cell? ⟨w.heap.size, 3, none⟩ = some (.int .i64 sx) := fun y => y.cells 3 _ rfl
 have c4 : ∀ y : Sub (w.heap.size + 1) (w.alloc (Obj.cells #[.int .i64 op, .int .i64 sm, .int .i64 sr, .int .i64 sx, .int .i64 dm, .int .i64 dr, .int .i64 dx, .int .i64 n] 69)), y.w.cell? ⟨w.heap.size, 4, none⟩ = some (.int .i64 dm) := fun y => y.cells 4 _ rfl
 have c5 : ∀ y : Sub (w.heap.size + 1) (w.alloc (Obj.cells #[.int .i64 op, .int .i64 sm, .int .i64 sr, .int .i64 sx, .int .i64 dm, .int .i64 dr, .int .i64 dx, .int .i64 n] 69)), y.w.cell? ⟨w.heap.size, 5, none⟩ = some (.int .i64 dr) := fun y => y.cells 5 _ rfl
 have c6 : ∀ y : Sub (w.heap.size + 1) (w.alloc (Obj.cells #[.int .i64 op, .int .i64 sm, .int .i64 sr, .int .i64 sx, .int .i64 dm, .int .i64 dr, .int .i64 dx, .int .i64 n] 69)), y.w.cell? ⟨w.heap.size, 6, none⟩ = some (.int .i64 dx) := fun y => y.cells 6 _ rfl
 have c7 : ∀ y : Sub (w.heap.size + 1) (w.alloc (Obj.cells #[.int .i64 op, .int .i64 sm, .int .i64 sr, .int .i64 sx, .int .i64 dm, .int .i64 dr, .int .i64 dx, .int .i64 n] 69)), y.w.cell? ⟨w.heap.size, 7, none⟩ = some (.int .i64 n) := fun y => y.cells 7 _ rfl
 have FS := hide (fun w => hasXI_anyQ ⟨sm, sr, sx⟩ w)
 have FD := hide (fun w => hasXI_anyQ ⟨dm, dr, dx⟩ w)
 unfold Is.words
 simp only
 generalize Od.hasX ⟨sm, sr, sx⟩ = qs at FS ⊢
 generalize Od.hasX ⟨dm, dr, dx⟩ = qd at FD ⊢
 unfold Od.v at FS FD
 simp only at FS FD
 have F1 := hide (fun w => hasSrc_any op w)
 have F2 := hide (fun w => hasDst_any op w)
 generalize inB op 1 6 = p1 at F1 ⊢
 generalize inB op 1 15 = p2 at F2 ⊢
 unfold Is.v
 simp only
 cases p1
 ·
  cases p2
  ·
   go_enter Tryz.func57, Tryz.ntmps57
   go_wp2_with (first | (go_at_call 101; refine (uh F1 _).mono ?_; rintro e w' ⟨rfl, hw'⟩; rw [hw']; clear hw' w') | (go_at_call 102; refine (uh F2 _).mono ?_; rintro e w' ⟨rfl, hw'⟩; rw [hw']; clear hw' w'))
   go_ret
   exact ⟨rfl, uh HS _ (Below.refl _ _)⟩
  ·
   cases qd
   ·
    go_enter Tryz.func57, Tryz.ntmps57
    go_wp2_with (first | (go_at_call 101; refine (uh F1 _).mono ?_; rintro e w' ⟨rfl, hw'⟩; rw [hw']; clear hw' w') | (go_at_call 102; refine (uh F2 _).mono ?_; rintro e w' ⟨rfl, hw'⟩; rw [hw']; clear hw' w'))
    refine (Sub.call (x := Sub.top w (Obj.cells #[.int .i64 op, .int .i64 sm, .int .i64 sr, .int .i64 sx, .int .i64 dm, .int .i64 dr, .int .i64 dx, .int .i64 n] 69)) (uh HZ) (uh FD _)).mono ?_
    rintro e _ ⟨rfl, y0, rfl⟩
    go_wp2_with (first | (go_at_call 101; refine (uh F1 _).mono ?_; rintro e w' ⟨rfl, hw'⟩; rw [hw']; clear hw' w') | (go_at_call 102; refine (uh F2 _).mono ?_; rintro e w' ⟨rfl, hw'⟩; rw [hw']; clear hw' w'))
    go_ret
    exact ⟨rfl, uh HS _ y0.h⟩
   ·
    go_enter Tryz.func57, Tryz.ntmps57
    go_wp2_with (first | (go_at_call 101; refine (uh F1 _).mono ?_; rintro e w' ⟨rfl, hw'⟩; rw [hw']; clear hw' w') | (go_at_call 102; refine (uh F2 _).mono ?_; rintro e w' ⟨rfl, hw'⟩; rw [hw']; clear hw' w'))
    refine (Sub.call (x := Sub.top w (Obj.cells #[.int .i64 op, .int .i64 sm, .int .i64 sr, .int .i64 sx, .int .i64 dm, .int .i64 dr, .int .i64 dx, .int .i64 n] 69)) (uh HZ) (uh FD _)).mono ?_
    rintro e _ ⟨rfl, y0, rfl⟩
    go_wp2_with (first | (go_at_call 101; refine (uh F1 _).mono ?_; rintro e w' ⟨rfl, hw'⟩; rw [hw']; clear hw' w') | (go_at_call 102; refine (uh F2 _).mono ?_; rintro e w' ⟨rfl, hw'⟩; rw [hw']; clear hw' w'))
    go_ret
    exact ⟨rfl, uh HS _ y0.h⟩
 ·
  cases qs
  ·
   cases p2
   ·
    go_enter Tryz.func57, Tryz.ntmps57
    go_wp2_with (first | (go_at_call 101; refine (uh F1 _).mono ?_; rintro e w' ⟨rfl, hw'⟩; rw [hw']; clear hw' w') | (go_at_call 102; refine (uh F2 _).mono ?_; rintro e w' ⟨rfl, hw'⟩; rw [hw']; clear hw' w'))
    refine (Sub.call (x := Sub.top w (Obj.cells #[.int .i64 op, .int .i64 sm, .int .i64 sr, .int .i64 sx, .int .i64 dm, .int .i64 dr, .int .i64 dx, .int .i64 n] 69)) (uh HZ) (uh FS _)).mono ?_
    rintro e _ ⟨rfl, y0, rfl⟩
    go_wp2_with (first | (go_at_call 101; refine (uh F1 _).mono ?_; rintro e w' ⟨rfl, hw'⟩; rw [hw']; clear hw' w') | (go_at_call 102; refine (uh F2 _).mono ?_; rintro e w' ⟨rfl, hw'⟩; rw [hw']; clear hw' w'))
    go_ret
    exact ⟨rfl, uh HS _ y0.h⟩
   ·
    cases qd
    ·
     go_enter Tryz.func57, Tryz.ntmps57
     go_wp2_with (first | (go_at_call 101; refine (uh F1 _).mono ?_; rintro e w' ⟨rfl, hw'⟩; rw [hw']; clear hw' w') | (go_at_call 102; refine (uh F2 _).mono ?_; rintro e w' ⟨rfl, hw'⟩; rw [hw']; clear hw' w'))
     refine (Sub.call (x := Sub.top w (Obj.cells #[.int .i64 op, .int .i64 sm, .int .i64 sr, .int .i64 sx, .int .i64 dm, .int .i64 dr, .int .i64 dx, .int .i64 n] 69)) (uh HZ) (uh FS _)).mono ?_
     rintro e _ ⟨rfl, y0, rfl⟩
     go_wp2_with (first | (go_at_call 101; refine (uh F1 _).mono ?_; rintro e w' ⟨rfl, hw'⟩; rw [hw']; clear hw' w') | (go_at_call 102; refine (uh F2 _).mono ?_; rintro e w' ⟨rfl, hw'⟩; rw [hw']; clear hw' w'))
     refine (Sub.call (x := y0) (uh HZ) (uh FD _)).mono ?_
     rintro e _ ⟨rfl, y1, rfl⟩
     go_wp2_with (first | (go_at_call 101; refine (uh F1 _).mono ?_; rintro e w' ⟨rfl, hw'⟩; rw [hw']; clear hw' w') | (go_at_call 102; refine (uh F2 _).mono ?_; rintro e w' ⟨rfl, hw'⟩; rw [hw']; clear hw' w'))
     go_ret
     exact ⟨rfl, uh HS _ y1.h⟩
    ·
     go_enter Tryz.func57, Tryz.ntmps57
     go_wp2_with (first | (go_at_call 101; refine (uh F1 _).mono ?_; rintro e w' ⟨rfl, hw'⟩; rw [hw']; clear hw' w') | (go_at_call 102; refine (uh F2 _).mono ?_; rintro e w' ⟨rfl, hw'⟩; rw [hw']; clear hw' w'))
     refine (Sub.call (x := Sub.top w (Obj.cells #[.int .i64 op, .int .i64 sm, .int .i64 sr, .int .i64 sx, .int .i64 dm, .int .i64 dr, .int .i64 dx, .int .i64 n] 69)) (uh HZ) (uh FS _)).mono ?_
     rintro e _ ⟨rfl, y0, rfl⟩
     go_wp2_with (first | (go_at_call 101; refine (uh F1 _).mono ?_; rintro e w' ⟨rfl, hw'⟩; rw [hw']; clear hw' w') | (go_at_call 102; refine (uh F2 _).mono ?_; rintro e w' ⟨rfl, hw'⟩; rw [hw']; clear hw' w'))
     refine (Sub.call (x := y0) (uh HZ) (uh FD _)).mono ?_
     rintro e _ ⟨rfl, y1, rfl⟩
     go_wp2_with (first | (go_at_call 101; refine (uh F1 _).mono ?_; rintro e w' ⟨rfl, hw'⟩; rw [hw']; clear hw' w') | (go_at_call 102; refine (uh F2 _).mono ?_; rintro e w' ⟨rfl, hw'⟩; rw [hw']; clear hw' w'))
     go_ret
     exact ⟨rfl, uh HS _ y1.h⟩
  ·
   cases p2
   ·
    go_enter Tryz.func57, Tryz.ntmps57
    go_wp2_with (first | (go_at_call 101; refine (uh F1 _).mono ?_; rintro e w' ⟨rfl, hw'⟩; rw [hw']; clear hw' w') | (go_at_call 102; refine (uh F2 _).mono ?_; rintro e w' ⟨rfl, hw'⟩; rw [hw']; clear hw' w'))
    refine (Sub.call (x := Sub.top w (Obj.cells #[.int .i64 op, .int .i64 sm, .int .i64 sr, .int .i64 sx, .int .i64 dm, .int .i64 dr, .int .i64 dx, .int .i64 n] 69)) (uh HZ) (uh FS _)).mono ?_
    rintro e _ ⟨rfl, y0, rfl⟩
    go_wp2_with (first | (go_at_call 101; refine (uh F1 _).mono ?_; rintro e w' ⟨rfl, hw'⟩; rw [hw']; clear hw' w') | (go_at_call 102; refine (uh F2 _).mono ?_; rintro e w' ⟨rfl, hw'⟩; rw [hw']; clear hw' w'))
    go_ret
    exact ⟨rfl, uh HS _ y0.h⟩
   ·
    cases qd
    ·
     go_enter Tryz.func57, Tryz.ntmps57
     go_wp2_with (first | (go_at_call 101; refine (uh F1 _).mono ?_; rintro e w' ⟨rfl, hw'⟩; rw [hw']; clear hw' w') | (go_at_call 102; refine (uh F2 _).mono ?_; rintro e w' ⟨rfl, hw'⟩; rw [hw']; clear hw' w'))
     refine (Sub.call (x := Sub.top w (Obj.cells #[.int .i64 op, .int .i64 sm, .int .i64 sr, .int .i64 sx, .int .i64 dm, .int .i64 dr, .int .i64 dx, .int .i64 n] 69)) (uh HZ) (uh FS _)).mono ?_
     rintro e _ ⟨rfl, y0, rfl⟩
     go_wp2_with (first | (go_at_call 101; refine (uh F1 _).mono ?_; rintro e w' ⟨rfl, hw'⟩; rw [hw']; clear hw' w') | (go_at_call 102; refine (uh F2 _).mono ?_; rintro e w' ⟨rfl, hw'⟩; rw [hw']; clear hw' w'))
     refine (Sub.call (x := y0) (uh HZ) (uh FD _)).mono ?_
     rintro e _ ⟨rfl, y1, rfl⟩
     go_wp2_with (first | (go_at_call 101; refine (uh F1 _).mono ?_; rintro e w' ⟨rfl, hw'⟩; rw [hw']; clear hw' w') | (go_at_call 102; refine (uh F2 _).mono ?_; rintro e w' ⟨rfl, hw'⟩; rw [hw']; clear hw' w'))
     go_ret
     exact ⟨rfl, uh HS _ y1.h⟩
    ·
     go_enter Tryz.func57, Tryz.ntmps57
     go_wp2_with (first | (go_at_call 101; refine (uh F1 _).mono ?_; rintro e w' ⟨rfl, hw'⟩; rw [hw']; clear hw' w') | (go_at_call 102; refine (uh F2 _).mono ?_; rintro e w' ⟨rfl, hw'⟩; rw [hw']; clear hw' w'))
     refine (Sub.call (x := Sub.top w (Obj.cells #[.int .i64 op, .int .i64 sm, .int .i64 sr, .int .i64 sx, .int .i64 dm, .int .i64 dr, .int .i64 dx, .int .i64 n] 69)) (uh HZ) (uh FS _)).mono ?_
     rintro e _ ⟨rfl, y0, rfl⟩
     go_wp2_with (first | (go_at_call 101; refine (uh F1 _).mono ?_; rintro e w' ⟨rfl, hw'⟩; rw [hw']; clear hw' w') | (go_at_call 102; refine (uh F2 _).mono ?_; rintro e w' ⟨rfl, hw'⟩; rw [hw']; clear hw' w'))
     refine (Sub.call (x := y0) (uh HZ) (uh FD _)).mono ?_
     rintro e _ ⟨rfl, y1, rfl⟩
     go_wp2_with (first | (go_at_call 101; refine (uh F1 _).mono ?_; rintro e w' ⟨rfl, hw'⟩; rw [hw']; clear hw' w') | (go_at_call 102; refine (uh F2 _).mono ?_; rintro e w' ⟨rfl, hw'⟩; rw [hw']; clear hw' w'))
     go_ret
     exact ⟨rfl, uh HS _ y1.h⟩
theorem and_high (n k j : Nat) (h : n < 2 ^ (k + j)) : n &&& ((2 ^ j - 1) * 2 ^ k) = n / 2 ^ k * 2 ^ k := by
 apply Nat.eq_of_testBit_eq
 intro i
 rw [Nat.testBit_and, Nat.testBit_mul_two_pow, Nat.testBit_mul_two_pow, Nat.testBit_two_pow_sub_one, Nat.testBit_div_two_pow]
 by_cases hi : k ≤ i
 ·
  have e : k + (i - k) = i := by omega
  have e2 : i - k + k = i := by omega
  simp only [hi, e2, decide_true, Bool.true_and]
  by_cases hj : i - k < j
  · simp [hj]
  ·
   have : n.testBit i = false := Nat.testBit_lt_two_pow (Nat.lt_of_lt_of_le h (Nat.pow_le_pow_right (by omega) (by omega)))
   simp [hj, this]
 · simp [hi]
theorem bits_and (n m : Nat) (hn : n < 65536) (hm : m < 65536) : bits .and .i64 (n : Int) (m : Int) = ((n &&& m : Nat) : Int) := by
 have key : (BitVec.ofInt 64 (n : Int) &&& BitVec.ofInt 64 (m : Int)).toNat = n &&& m := by
  rw [BitVec.toNat_and, BitVec.toNat_ofInt, BitVec.toNat_ofInt]
  have e1 : ((n : Int) % ((2 ^ 64 : Nat) : Int)).toNat = n := by omega
  have e2 : ((m : Int) % ((2 ^ 64 : Nat) : Int)).toNat = m := by omega
  rw [e1, e2]
 have hle : n &&& m ≤ n := Nat.and_le_left
 show IntKind.i64.wrap ((BitVec.ofInt 64 (n : Int) &&& BitVec.ofInt 64 (m : Int)).toNat : Nat) = _
 rw [key, IntKind.wrap_i64]
 omega
theorem and_F000 (n : Nat) (hn : n < 65536) : bits .and .i64 (n : Int) 61440 = ((n / 4096 * 4096 : Nat) : Int) := by
 rw [show (61440 : Int) = ((61440 : Nat) : Int) from rfl, bits_and n 61440 hn (by omega)]
 exact congrArg Int.ofNat (and_high n 12 4 (by simpa using hn))
theorem and_FFC0 (n : Nat) (hn : n < 65536) : bits .and .i64 (n : Int) 65472 = ((n / 64 * 64 : Nat) : Int) := by
 rw [show (65472 : Int) = ((65472 : Nat) : Int) from rfl, bits_and n 65472 hn (by omega)]
 exact congrArg Int.ofNat (and_high n 6 10 (by simpa using hn))
theorem and_FE00 (n : Nat) (hn : n < 65536) : bits .and .i64 (n : Int) 65024 = ((n / 512 * 512 : Nat) : Int) := by
 rw [show (65024 : Int) = ((65024 : Nat) : Int) from rfl, bits_and n 65024 hn (by omega)]
 exact congrArg Int.ofNat (and_high n 9 7 (by simpa using hn))
theorem and_FFF8 (n : Nat) (hn : n < 65536) : bits .and .i64 (n : Int) 65528 = ((n / 8 * 8 : Nat) : Int) := by
 rw [show (65528 : Int) = ((65528 : Nat) : Int) from rfl, bits_and n 65528 hn (by omega)]
 exact congrArg Int.ofNat (and_high n 3 13 (by simpa using hn))
theorem and_FF00 (n : Nat) (hn : n < 65536) : bits .and .i64 (n : Int) 65280 = ((n / 256 * 256 : Nat) : Int) := by
 rw [show (65280 : Int) = ((65280 : Nat) : Int) from rfl, bits_and n 65280 hn (by omega)]
 exact congrArg Int.ofNat (and_high n 8 8 (by simpa using hn))
theorem and_7 (n : Nat) (hn : n < 65536) : bits .and .i64 (n : Int) 7 = ((n % 8 : Nat) : Int) := by
 rw [show (7 : Int) = ((7 : Nat) : Int) from rfl, bits_and n 7 hn (by omega)]
 exact congrArg Int.ofNat (Nat.and_two_pow_sub_one_eq_mod n 3)
theorem and_FF (n : Nat) (hn : n < 65536) : bits .and .i64 (n : Int) 255 = ((n % 256 : Nat) : Int) := by
 rw [show (255 : Int) = ((255 : Nat) : Int) from rfl, bits_and n 255 hn (by omega)]
 exact congrArg Int.ofNat (Nat.and_two_pow_sub_one_eq_mod n 8)
theorem and_7i (n : Nat) (hn : n < 65536) : bits .and .i64 (n : Int) 7 = (n : Int) % 8 := by rw [and_7 n hn]; omega
theorem and_FFi (n : Nat) (hn : n < 65536) : bits .and .i64 (n : Int) 255 = (n : Int) % 256 := by rw [and_FF n hn]; omega
theorem sh3_7 (n : Nat) (hn : n < 65536) : bits .and .i64 ((n : Int) / 8) 7 = (n : Int) / 8 % 8 := by
 have := and_7i (n / 8) (by omega)
 rw [show ((n / 8 : Nat) : Int) = (n : Int) / 8 by omega] at this
 exact this
theorem sh6_7 (n : Nat) (hn : n < 65536) : bits .and .i64 ((n : Int) / 64) 7 = (n : Int) / 64 % 8 := by
 have := and_7i (n / 64) (by omega)
 rw [show ((n / 64 : Nat) : Int) = (n : Int) / 64 by omega] at this
 exact this
def opdOf (n : Int) : Od := ⟨n / 8 % 8, n % 8, 0⟩
theorem l4Opd_any (n : Nat) (hn : n < 65536) (w : World) : Calls Tryz.prog 119 #[.int .i64 (n : Int)] w fun e w' => e = .returned (opdOf (n : Int)).v ∧ Below w.heap.size w w' := by
 have h1 := and_7i n hn
 have h2 := sh3_7 n hn
 have HG : ∀ o, (w.alloc o).heap[w.heap.size]? = some o := fun o => Array.getElem?_push_size
 have HG' := hide HG
 clear HG
 unfold opdOf Od.v
 simp only
 go_enter Tryz.func119, Tryz.ntmps119
 go_wp2
 refine bodyPost_ret (results_cell_row (P := Tryz.prog) rfl _ _ w.heap.size 67 #[.int .i64 ((n : Int) / 8 % 8), .int .i64 ((n : Int) % 8), .int .i64 0] (0, 0) _ rfl (uh HG' _) Tryz.underlying67 rfl (by kernel_rfl)) rfl ?_
 exact ⟨rfl, (Below.refl _ _).alloc (Nat.le_refl _) _⟩
set_option maxRecDepth 8000
def formsA : Array Value := #[.int .i64 1, .int .i64 6, .int .i64 4096, .func (.func 127) #[] #[], .func (.func 128) #[] #[], .int .i64 7, .int .i64 14, .int .i64 64, .func (.func 129) #[] #[], .func (.func 130) #[] #[], .int .i64 15, .int .i64 15, .int .i64 512, .func (.func 131) #[] #[], .func (.func 132) #[] #[], .int .i64 16, .int .i64 16, .int .i64 8, .func (.func 133) #[] #[], .func (.func 134) #[] #[], .int .i64 17, .int .i64 21, .int .i64 256, .func (.func 135) #[] #[], .func (.func 136) #[] #[], .int .i64 22, .int .i64 22, .int .i64 1, .func (.func 133) #[] #[], .func (.func 134) #[] #[], .int .i64 23, .int .i64 23, .int .i64 256, .func (.func 133) #[] #[], .func (.func 134) #[] #[]]
theorem wpList_store_newQ {P : Program} {ops : Array Oper} {rest : List Oper} {o : Oper} {a : Act} {w : World} {Q : Exit → Act → World → Prop} (hgd : o.guard = none) (ty : TypeId) (x y : Operand) (ho : o.op = .store ty x y)
  (cells : Array Value) (hx : a.eval x = .pointer (some ⟨w.heap.size, 0, none⟩)) (hy : a.eval y = .agg cells) (old : Array Value) (hi : (P.info? ty).map (·.size) = some cells.size)
  (hold : old.size = cells.size) (h1 : cells.all (·.oneCell') = true) (h : wpList P ops Q rest (a.put o.dst undef) (w.alloc (.cells cells ty))) : wpList P ops Q (o :: rest) a (w.alloc (.cells old ty)) :=
 wpList_store_row hgd ty x y ho w.heap.size cells hx hy ty old (heap_alloc_last w _) hi hold h1 (by rw [World.setRow_alloc_new]; exact h)
theorem forms_any (w : World) : Calls Tryz.prog 100 #[] w fun e w' => e = .returned (.agg formsA) ∧ Below w.heap.size w w' := by
 have HG : ∀ o, (w.alloc o).heap[w.heap.size]? = some o := fun o => Array.getElem?_push_size
 have HG' := hide HG
 clear HG
 go_enter Tryz.func100, Tryz.ntmps100
 go_wp2_with (refine wpList_store_newQ rfl 112 _ _ rfl formsA rfl rfl _ (by kernel_rfl) rfl (by kernel_rfl) ?_)
 refine bodyPost_ret (results_cell_row (P := Tryz.prog) rfl _ _ w.heap.size 112 formsA (0, 0) _ rfl (uh HG' _) Tryz.underlying112 rfl (by kernel_rfl)) rfl ?_
 exact ⟨rfl, (Below.refl _ _).alloc (Nat.le_refl _) _⟩
section
def Tab (w : World) : Prop := 0 < w.heap.size ∧ ∀ k, k < 24 → w.cell? ⟨0, k, none⟩ = some (.int .i64 (baseAt k))
theorem Tab.later {w w' : World} (h : Tab w) (hb : Below w.heap.size w w') : Tab w' :=
 ⟨Nat.lt_of_lt_of_le h.1 hb.size, fun k hk => (hb.cell (p := ⟨0, k, none⟩) h.1).trans (h.2 k hk)⟩
def firstOf (j : Nat) : Nat := [1, 7, 15, 16, 17, 22, 23, 24].getD j 0
theorem wpList_index_at {P : Program} {ops : Array Oper} {rest : List Oper} {o : Oper} {a : Act} {w : World} {Q : Exit → Act → World → Prop} (hgd : o.guard = none) (xt : TypeId) (x ix : Operand) (ho : o.op = .index xt x ix) (cs : Array Value) (i : Int) (v : Value)
  (hx : a.eval x = .agg cs) (hi : a.eval ix = .int .i64 i) (hr : ∀ w, (Instr.index xt (.agg cs) (.int .i64 i)).run P w = .ok v w) (h : wpList P ops Q rest (a.put o.dst v) w) : wpList P ops Q (o :: rest) a w :=
 wpList_plain hgd fun _ hK => by
  unfold Oper.wp execOp
  simp only [ho, hx, hi, hr, Sem.run_bind, Sem.run_pure, Result.andThen_ok]
  exact hK _ _ h
theorem ix_0 (w : World) : (Instr.index 112 (.agg formsA) (.int .i64 0)).run Tryz.prog w = .ok (.agg #[.int .i64 1, .int .i64 6, .int .i64 4096, .func (.func 127) #[] #[], .func (.func 128) #[] #[]]) w := by kernel_rfl
theorem ix_1 (w : World) : (Instr.index 112 (.agg formsA) (.int .i64 1)).run Tryz.prog w = .ok (.agg #[.int .i64 7, .int .i64 14, .int .i64 64, .func (.func 129) #[] #[], .func (.func 130) #[] #[]]) w := by kernel_rfl
theorem ix_2 (w : World) : (Instr.index 112 (.agg formsA) (.int .i64 2)).run Tryz.prog w = .ok (.agg #[.int .i64 15, .int .i64 15, .int .i64 512, .func (.func 131) #[] #[], .func (.func 132) #[] #[]]) w := by kernel_rfl
theorem ix_3 (w : World) : (Instr.index 112 (.agg formsA) (.int .i64 3)).run Tryz.prog w = .ok (.agg #[.int .i64 16, .int .i64 16, .int .i64 8, .func (.func 133) #[] #[], .func (.func 134) #[] #[]]) w := by kernel_rfl
theorem ix_4 (w : World) : (Instr.index 112 (.agg formsA) (.int .i64 4)).run Tryz.prog w = .ok (.agg #[.int .i64 17, .int .i64 21, .int .i64 256, .func (.func 135) #[] #[], .func (.func 136) #[] #[]]) w := by kernel_rfl
theorem ix_5 (w : World) : (Instr.index 112 (.agg formsA) (.int .i64 5)).run Tryz.prog w = .ok (.agg #[.int .i64 22, .int .i64 22, .int .i64 1, .func (.func 133) #[] #[], .func (.func 134) #[] #[]]) w := by kernel_rfl
theorem ix_6 (w : World) : (Instr.index 112 (.agg formsA) (.int .i64 6)).run Tryz.prog w = .ok (.agg #[.int .i64 23, .int .i64 23, .int .i64 256, .func (.func 133) #[] #[], .func (.func 134) #[] #[]]) w := by kernel_rfl
end
def Bx (w : World) (b k ty : Nat) : Prop := w.heap[b]? = some (.cells #[.func (.func k) #[] #[]] ty (0, 0))
theorem Bx.lt {w : World} {b k ty : Nat} (h : Bx w b k ty) : b < w.heap.size := (Array.getElem?_eq_some_iff.1 h).1
theorem Bx.later {w w' : World} {b k ty : Nat} (h : Bx w b k ty) (hb : Below w.heap.size w w') : Bx w' b k ty := (hb.block b h.lt).trans h
structure Bxs (w0 w : World) (l : List (Nat × Nat × Nat)) : Prop where
 all : ∀ p ∈ l, w0.heap.size ≤ p.1 ∧ Bx w p.1 p.2.1 p.2.2
 bel : Below w0.heap.size w0 w
theorem Bxs.nil (w : World) : Bxs w w [] := ⟨(fun p hp => absurd hp List.not_mem_nil), Below.refl _ _⟩
theorem Bxs.more {w0 w w' : World} {l : List (Nat × Nat × Nat)} (h : Bxs w0 w l) {b k ty : Nat} (hl : w.heap.size ≤ b) (hx : Bx w' b k ty) (hb : Below w.heap.size w w') : Bxs w0 w' ((b, k, ty) :: l) :=
 ⟨fun p hp => by
  rcases List.mem_cons.1 hp with rfl | hp
  · exact ⟨Nat.le_trans h.bel.size hl, hx⟩
  · exact ⟨(h.all p hp).1, (h.all p hp).2.later hb⟩, h.bel.trans (hb.mono h.bel.size)⟩
theorem heap_alloc_last' (w : World) (o : Obj) : (w.alloc o).heap[w.heap.size]? = some o := Array.getElem?_push_size
theorem stored_c (k : Nat) (w : World) : Calls Tryz.prog 60 #[.func (.func k) #[] #[]] w fun e w' => ∃ b, e = .returned (.func (.func 105) #[] #[.pointer (some ⟨b, 0, none⟩)]) ∧ w.heap.size ≤ b ∧ Bx w' b k 119 ∧ Below w.heap.size w w' := by
 have hmf : ∀ (fn : Fn) (first cap : Array Value) (w : World), (Instr.makeFunc fn first cap).run Tryz.prog w = .ok (.func fn first cap) w := fun _ _ _ _ => rfl
 go_enter Tryz.func60, Tryz.ntmps60
 go_wp2
 go_ret
 exact ⟨w.heap.size, rfl, Nat.le_refl _, heap_alloc_last' w _, (Below.refl _ _).alloc (Nat.le_refl _) _⟩
theorem told_c (k : Nat) (w : World) : Calls Tryz.prog 62 #[.func (.func k) #[] #[]] w fun e w' => ∃ b, e = .returned (.func (.func 107) #[] #[.pointer (some ⟨b, 0, none⟩)]) ∧ w.heap.size ≤ b ∧ Bx w' b k 119 ∧ Below w.heap.size w w' := by
 have hmf : ∀ (fn : Fn) (first cap : Array Value) (w : World), (Instr.makeFunc fn first cap).run Tryz.prog w = .ok (.func fn first cap) w := fun _ _ _ _ => rfl
 go_enter Tryz.func62, Tryz.ntmps62
 go_wp2
 go_ret
 exact ⟨w.heap.size, rfl, Nat.le_refl _, heap_alloc_last' w _, (Below.refl _ _).alloc (Nat.le_refl _) _⟩
theorem branch_c (k : Nat) (w : World) : Calls Tryz.prog 78 #[.func (.func k) #[] #[]] w fun e w' => ∃ b, e = .returned (.func (.func 116) #[] #[.pointer (some ⟨b, 0, none⟩)]) ∧ w.heap.size ≤ b ∧ Bx w' b k 93 ∧ Below w.heap.size w w' := by
 have hmf : ∀ (fn : Fn) (first cap : Array Value) (w : World), (Instr.makeFunc fn first cap).run Tryz.prog w = .ok (.func fn first cap) w := fun _ _ _ _ => rfl
 go_enter Tryz.func78, Tryz.ntmps78
 go_wp2
 go_ret
 exact ⟨w.heap.size, rfl, Nat.le_refl _, heap_alloc_last' w _, (Below.refl _ _).alloc (Nat.le_refl _) _⟩
def actV (op b : Nat) : Value :=
 match op with
 | 1 => .func (.func 105) #[] #[.pointer (some ⟨b, 0, none⟩)]
 | 2 => .func (.func 107) #[] #[.pointer (some ⟨b, 0, none⟩)]
 | 3 => .func (.func 105) #[] #[.pointer (some ⟨b, 0, none⟩)]
 | 4 => .func (.func 105) #[] #[.pointer (some ⟨b, 0, none⟩)]
 | 5 => .func (.func 105) #[] #[.pointer (some ⟨b, 0, none⟩)]
 | 6 => .func (.func 105) #[] #[.pointer (some ⟨b, 0, none⟩)]
 | 7 => .func (.func 105) #[] #[.pointer (some ⟨b, 0, none⟩)]
 | 8 => .func (.func 105) #[] #[.pointer (some ⟨b, 0, none⟩)]
 | 9 => .func (.func 105) #[] #[.pointer (some ⟨b, 0, none⟩)]
 | 10 => .func (.func 105) #[] #[.pointer (some ⟨b, 0, none⟩)]
 | 11 => .func (.func 107) #[] #[.pointer (some ⟨b, 0, none⟩)]
 | 12 => .func (.func 105) #[] #[.pointer (some ⟨b, 0, none⟩)]
 | 13 => .func (.func 105) #[] #[.pointer (some ⟨b, 0, none⟩)]
 | 14 => .func (.func 75) #[] #[]
 | 15 => .func (.func 76) #[] #[]
 | 16 => .func (.func 77) #[] #[]
 | 17 => .func (.func 116) #[] #[.pointer (some ⟨b, 0, none⟩)]
 | 18 => .func (.func 116) #[] #[.pointer (some ⟨b, 0, none⟩)]
 | 19 => .func (.func 116) #[] #[.pointer (some ⟨b, 0, none⟩)]
 | 20 => .func (.func 116) #[] #[.pointer (some ⟨b, 0, none⟩)]
 | 21 => .func (.func 116) #[] #[.pointer (some ⟨b, 0, none⟩)]
 | 22 => .func (.func 84) #[] #[]
 | 23 => .func (.func 85) #[] #[]
 | _ => .nilFunc
def actB (B : Nat) (w : World) (op b : Nat) : Prop :=
 match op with
 | 1 => B ≤ b ∧ Bx w b 61 119
 | 2 => B ≤ b ∧ Bx w b 63 119
 | 3 => B ≤ b ∧ Bx w b 64 119
 | 4 => B ≤ b ∧ Bx w b 65 119
 | 5 => B ≤ b ∧ Bx w b 66 119
 | 6 => B ≤ b ∧ Bx w b 67 119
 | 7 => B ≤ b ∧ Bx w b 68 119
 | 8 => B ≤ b ∧ Bx w b 69 119
 | 9 => B ≤ b ∧ Bx w b 70 119
 | 10 => B ≤ b ∧ Bx w b 71 119
 | 11 => B ≤ b ∧ Bx w b 72 119
 | 12 => B ≤ b ∧ Bx w b 73 119
 | 13 => B ≤ b ∧ Bx w b 74 119
 | 17 => B ≤ b ∧ Bx w b 79 93
 | 18 => B ≤ b ∧ Bx w b 80 93
 | 19 => B ≤ b ∧ Bx w b 81 93
 | 20 => B ≤ b ∧ Bx w b 82 93
 | 21 => B ≤ b ∧ Bx w b 83 93
 | _ => True
def actSel (op : Nat) (l : List Nat) : Nat := l.getD (if op ≤ 13 then op - 1 else if 17 ≤ op then op - 4 else 20) 0
theorem actionOf_any (op : Nat) (h1 : 1 ≤ op) (h2 : op ≤ 23) (w : World) : Calls Tryz.prog 47 #[.int .i64 (op : Int)] w fun e w' => ∃ b, e = .returned (actV op b) ∧ actB w.heap.size w' op b ∧ Below w.heap.size w w' := by
 have S0 := hide (Bxs.nil w)
 have E := hide (show op = 1 ∨ op = 2 ∨ op = 3 ∨ op = 4 ∨ op = 5 ∨ op = 6 ∨ op = 7 ∨ op = 8 ∨ op = 9 ∨ op = 10 ∨ op = 11 ∨ op = 12 ∨ op = 13 ∨ op = 14 ∨ op = 15 ∨ op = 16 ∨ op = 17 ∨ op = 18 ∨ op = 19 ∨ op = 20 ∨ op = 21 ∨ op = 22 ∨ op = 23 by omega)
 clear h1 h2
 go_enter Tryz.func47, Tryz.ntmps47
 go_wp2_with fail
 refine (stored_c 61 _).mono ?_
 rintro e w1 ⟨b1, rfl, l1, x1, c1⟩
 have S1 := hide ((uh S0).more l1 x1 c1)
 clear S0 l1 x1 c1
 go_wp2_with fail
 refine (told_c 63 _).mono ?_
 rintro e w2 ⟨b2, rfl, l2, x2, c2⟩
 have S2 := hide ((uh S1).more l2 x2 c2)
 clear S1 l2 x2 c2
 go_wp2_with fail
 refine (stored_c 64 _).mono ?_
 rintro e w3 ⟨b3, rfl, l3, x3, c3⟩
 have S3 := hide ((uh S2).more l3 x3 c3)
 clear S2 l3 x3 c3
 go_wp2_with fail
 refine (stored_c 65 _).mono ?_
 rintro e w4 ⟨b4, rfl, l4, x4, c4⟩
 have S4 := hide ((uh S3).more l4 x4 c4)
 clear S3 l4 x4 c4
 go_wp2_with fail
 refine (stored_c 66 _).mono ?_
 rintro e w5 ⟨b5, rfl, l5, x5, c5⟩
 have S5 := hide ((uh S4).more l5 x5 c5)
 clear S4 l5 x5 c5
 go_wp2_with fail
 refine (stored_c 67 _).mono ?_
 rintro e w6 ⟨b6, rfl, l6, x6, c6⟩
 have S6 := hide ((uh S5).more l6 x6 c6)
 clear S5 l6 x6 c6
 go_wp2_with fail
 refine (stored_c 68 _).mono ?_
 rintro e w7 ⟨b7, rfl, l7, x7, c7⟩
 have S7 := hide ((uh S6).more l7 x7 c7)
 clear S6 l7 x7 c7
 go_wp2_with fail
 refine (stored_c 69 _).mono ?_
 rintro e w8 ⟨b8, rfl, l8, x8, c8⟩
 have S8 := hide ((uh S7).more l8 x8 c8)
 clear S7 l8 x8 c8
 go_wp2_with fail
 refine (stored_c 70 _).mono ?_
 rintro e w9 ⟨b9, rfl, l9, x9, c9⟩
 have S9 := hide ((uh S8).more l9 x9 c9)
 clear S8 l9 x9 c9
 go_wp2_with fail
 refine (stored_c 71 _).mono ?_
 rintro e w10 ⟨b10, rfl, l10, x10, c10⟩
 have S10 := hide ((uh S9).more l10 x10 c10)
 clear S9 l10 x10 c10
 go_wp2_with fail
 refine (told_c 72 _).mono ?_
 rintro e w11 ⟨b11, rfl, l11, x11, c11⟩
 have S11 := hide ((uh S10).more l11 x11 c11)
 clear S10 l11 x11 c11
 go_wp2_with fail
 refine (stored_c 73 _).mono ?_
 rintro e w12 ⟨b12, rfl, l12, x12, c12⟩
 have S12 := hide ((uh S11).more l12 x12 c12)
 clear S11 l12 x12 c12
 go_wp2_with fail
 refine (stored_c 74 _).mono ?_
 rintro e w13 ⟨b13, rfl, l13, x13, c13⟩
 have S13 := hide ((uh S12).more l13 x13 c13)
 clear S12 l13 x13 c13
 go_wp2_with fail
 refine (branch_c 79 _).mono ?_
 rintro e w14 ⟨b14, rfl, l14, x14, c14⟩
 have S14 := hide ((uh S13).more l14 x14 c14)
 clear S13 l14 x14 c14
 go_wp2_with fail
 refine (branch_c 80 _).mono ?_
 rintro e w15 ⟨b15, rfl, l15, x15, c15⟩
 have S15 := hide ((uh S14).more l15 x15 c15)
 clear S14 l15 x15 c15
 go_wp2_with fail
 refine (branch_c 81 _).mono ?_
 rintro e w16 ⟨b16, rfl, l16, x16, c16⟩
 have S16 := hide ((uh S15).more l16 x16 c16)
 clear S15 l16 x16 c16
 go_wp2_with fail
 refine (branch_c 82 _).mono ?_
 rintro e w17 ⟨b17, rfl, l17, x17, c17⟩
 have S17 := hide ((uh S16).more l17 x17 c17)
 clear S16 l17 x17 c17
 go_wp2_with fail
 refine (branch_c 83 _).mono ?_
 rintro e w18 ⟨b18, rfl, l18, x18, c18⟩
 have S18 := hide ((uh S17).more l18 x18 c18)
 clear S17 l18 x18 c18
 have IX := hide (show ∀ v : World, (Instr.index 94 (.agg #[.nilFunc, .func (.func 105) #[] #[.pointer (some ⟨b1, 0, none⟩)], .func (.func 107) #[] #[.pointer (some ⟨b2, 0, none⟩)], .func (.func 105) #[] #[.pointer (some ⟨b3, 0, none⟩)], .func (.func 105) #[] #[.pointer (some ⟨b4, 0, none⟩)], .func (.func 105) #[] #[.pointer (some ⟨b5, 0, none⟩)], .func (.func 105) #[] #[.pointer (some ⟨b6, 0, none⟩)], .func (.func 105) #[] #[.pointer (some ⟨b7, 0, none⟩)], .func (.func 105) #[] #[.pointer (some ⟨b8, 0, none⟩)], .func (.func 105) #[] #[.pointer (some ⟨b9, 0, none⟩)], .func (.func 105) #[] #[.pointer (some ⟨b10, 0, none⟩)], .func (.func 107) #[] #[.pointer (some ⟨b11, 0, none⟩)], .func (.func 105) #[] #[.pointer (some ⟨b12, 0, none⟩)], .func (.func 105) #[] #[.pointer (some ⟨b13, 0, none⟩)], .func (.func 75) #[] #[], .func (.func 76) #[] #[], .func (.func 77) #[] #[], .func (.func 116) #[] #[.pointer (some ⟨b14, 0, none⟩)], .func (.func 116) #[] #[.pointer (some ⟨b15, 0, none⟩)], .func (.func 116) #[] #[.pointer (some ⟨b16, 0, none⟩)], .func (.func 116) #[] #[.pointer (some ⟨b17, 0, none⟩)], .func (.func 116) #[] #[.pointer (some ⟨b18, 0, none⟩)], .func (.func 84) #[] #[], .func (.func 85) #[] #[]]) (.int .i64 (op : Int))).run Tryz.prog v = .ok (actV op (actSel op [b1, b2, b3, b4, b5, b6, b7, b8, b9, b10, b11, b12, b13, b14, b15, b16, b17, b18])) v by
  rcases uh E with rfl | rfl | rfl | rfl | rfl | rfl | rfl | rfl | rfl | rfl | rfl | rfl | rfl | rfl | rfl | rfl | rfl | rfl | rfl | rfl | rfl | rfl | rfl <;> exact fun v => by kernel_rfl)
 have FB := hide (show actB w.heap.size w18 op (actSel op [b1, b2, b3, b4, b5, b6, b7, b8, b9, b10, b11, b12, b13, b14, b15, b16, b17, b18]) by
  rcases uh E with rfl | rfl | rfl | rfl | rfl | rfl | rfl | rfl | rfl | rfl | rfl | rfl | rfl | rfl | rfl | rfl | rfl | rfl | rfl | rfl | rfl | rfl | rfl
  · exact (uh S18).all (b1, _, _) (by simp)
  · exact (uh S18).all (b2, _, _) (by simp)
  · exact (uh S18).all (b3, _, _) (by simp)
  · exact (uh S18).all (b4, _, _) (by simp)
  · exact (uh S18).all (b5, _, _) (by simp)
  · exact (uh S18).all (b6, _, _) (by simp)
  · exact (uh S18).all (b7, _, _) (by simp)
  · exact (uh S18).all (b8, _, _) (by simp)
  · exact (uh S18).all (b9, _, _) (by simp)
  · exact (uh S18).all (b10, _, _) (by simp)
  · exact (uh S18).all (b11, _, _) (by simp)
  · exact (uh S18).all (b12, _, _) (by simp)
  · exact (uh S18).all (b13, _, _) (by simp)
  · exact trivial
  · exact trivial
  · exact trivial
  · exact (uh S18).all (b14, _, _) (by simp)
  · exact (uh S18).all (b15, _, _) (by simp)
  · exact (uh S18).all (b16, _, _) (by simp)
  · exact (uh S18).all (b17, _, _) (by simp)
  · exact (uh S18).all (b18, _, _) (by simp)
  · exact trivial
  · exact trivial)
 have HB := hide (uh S18).bel
 clear S18 E
 generalize actSel op [b1, b2, b3, b4, b5, b6, b7, b8, b9, b10, b11, b12, b13, b14, b15, b16, b17, b18] = bb at IX FB
 obtain ⟨vv, hvv⟩ : ∃ v, actV op bb = v := ⟨_, rfl⟩
 rw [hvv] at IX
 have HV := hide hvv
 clear hvv
 go_wp2_with (refine wpList_index_at rfl 94 _ _ rfl _ _ vv rfl rfl (uh IX) ?_)
 go_ret
 exact ⟨bb, by rw [uh HV]; rfl, uh FB, uh HB⟩
section
section
variable {w : World} {b : Nat} {op sm sr dm dr : Nat} {sx dx n : Int} {ty : TypeId}
theorem insR (k : Nat) (v : Value) (h : w.heap[b]? = some (.cells #[.int .i64 (op : Int), .int .i64 (sm : Int), .int .i64 (sr : Int), .int .i64 sx, .int .i64 (dm : Int), .int .i64 (dr : Int), .int .i64 dx, .int .i64 n] ty (0, 0))) (hv : (#[.int .i64 (op : Int), .int .i64 (sm : Int), .int .i64 (sr : Int), .int .i64 sx, .int .i64 (dm : Int), .int .i64 (dr : Int), .int .i64 dx, .int .i64 n] : Array Value)[k]? = some v) : w.cell? ⟨b, k, none⟩ = some v := (cell_of_row w b k _ ty _ h).trans hv
end
def Ms.sB (t : Ms) (op sm sr : Nat) : Bool := if op ≤ 6 then t.opB sm sr else true
def Ms.sT (t : Ms) (op sm sr : Nat) : Ms := if op ≤ 6 then t.op sm sr else t
def Ms.sV (t : Ms) (op sm sr : Nat) : Int := if op ≤ 6 then t.opV sm sr else 0
theorem dk_sT {t : Ms} (h : Dk t.d) (op sm sr : Nat) : Dk (t.sT op sm sr).d := by
 unfold Ms.sT
 split
 · exact dk_op h sm sr
 · exact h
theorem sV_b {t : Ms} (h : Dk t.d) (op sm sr : Nat) : 0 ≤ t.sV op sm sr ∧ t.sV op sm sr ≤ 65535 := by
 unfold Ms.sV
 split
 · exact op_v h sm sr
 · omega
def Ms.woB (t : Ms) (op sm sr dm dr : Nat) : Bool := t.sB op sm sr && (t.sT op sm sr).opB dm dr
def Ms.woT (t : Ms) (op sm sr dm dr : Nat) : Ms := (t.sT op sm sr).op dm dr
structure OsE (ok : Bool) (s s0 : Int) (q : Option Addr) (p : Addr) (P F : Prop) : Prop where
 no : ok = false → q = none
 yes : ok = true → s = s0 ∧ q = some p ∧ P
 fm : F
def OsIs (g B gr rc op sm sr dm dr : Nat) (sx dx n : Int) (y : Mv) (t : Ms) (st : Int) (w : World) : Prop :=
 Calls Tryz.prog 138 #[.pointer (some ⟨g, 0, none⟩), .agg #[.int .i64 (op : Int), .int .i64 (sm : Int), .int .i64 (sr : Int), .int .i64 sx, .int .i64 (dm : Int), .int .i64 (dr : Int), .int .i64 dx, .int .i64 n]] w fun e w' => ∃ s q, e = .returned (.tuple #[.int .i64 s, .pointer q]) ∧ OsE (t.woB op sm sr dm dr) s (t.sV op sm sr) q ((t.sT op sm sr).opP g gr dm dr) (Pz w' g B gr rc y (t.woT op sm sr dm dr) st (t.woT op sm sr dm dr).d.m) (Fm w w' g y y)
theorem os_two (g B gr rc op sm sr dm dr : Nat) (sx dx n : Int) (y : Mv) (t : Ms) (st : Int) (w : World) (h : Pz w g B gr rc y t st t.d.m) (hk : Dk t.d) (h1 : 1 ≤ op) (h6 : op ≤ 6) (s7 : sm ≤ 7) (s8 : sr < 8) (d7 : dm ≤ 7) (d8 : dr < 8) : OsIs g B gr rc op sm sr dm dr sx dx n y t st w := by
 have GL := hide h.gl
 have YL := hide (fun b (hb : y.at b) => h.yl hb)
 have HS := hide (fun v => hasSrc_any (op : Int) v)
 rw [show inB (op : Int) 1 6 = true by unfold inB; simp; omega] at HS
 have H1 := hide (h.later (below_new w (Obj.cells #[.int .i64 (op : Int), .int .i64 (sm : Int), .int .i64 (sr : Int), .int .i64 sx, .int .i64 (dm : Int), .int .i64 (dr : Int), .int .i64 dx, .int .i64 n] 69)))
 have F1 := hide (Fm.of (g := g) (y := y) (below_new w (Obj.cells #[.int .i64 (op : Int), .int .i64 (sm : Int), .int .i64 (sr : Int), .int .i64 sx, .int .i64 (dm : Int), .int .i64 (dr : Int), .int .i64 dx, .int .i64 n] 69)))
 have R1 := hide (heap_alloc_last w (Obj.cells #[.int .i64 (op : Int), .int .i64 (sm : Int), .int .i64 (sr : Int), .int .i64 sx, .int .i64 (dm : Int), .int .i64 (dr : Int), .int .i64 dx, .int .i64 n] 69))
 have O1 := hide (operand_any g B gr rc sm sr sx y t st _ (uh H1) hk s7 s8)
 have O2 := hide (fun v (p : Pz v g B gr rc y (t.op sm sr) st (t.op sm sr).d.m) => operand_any g B gr rc dm dr dx y (t.op sm sr) st v p (dk_op hk sm sr) d7 d8)
 have PL := hide (fun v (hb : t.opB sm sr = true) (p : Pz v g B gr rc y (t.op sm sr) st (t.op sm sr).d.m) => Pz.place2 hk s8 hb p)
 unfold OsIs Ms.woB Ms.woT Ms.sB Ms.sT Ms.sV
 simp only [if_pos h6]
 generalize t.opB sm sr = b1 at O1 PL ⊢
 generalize t.opP g gr sm sr = p1 at O1 PL
 generalize t.opV sm sr = v1 at PL ⊢
 generalize t.op sm sr = t1 at O1 O2 PL ⊢
 generalize t1.opB dm dr = b2 at O2 ⊢
 generalize t1.opP g gr dm dr = p2 at O2 ⊢
 generalize t1.op dm dr = t2 at O2 ⊢
 clear h hk
 have k0 := insR 0 _ (uh R1) rfl
 have k1 := insR 1 _ (uh R1) rfl
 have k2 := insR 2 _ (uh R1) rfl
 have k3 := insR 3 _ (uh R1) rfl
 cases b1
 ·
  go_enter Tryz.func138, Tryz.ntmps138
  go_wp2_with fail
  refine (uh HS _).mono ?_
  rintro e w9 ⟨rfl, hw9⟩
  rw [hw9]
  clear hw9 w9
  go_wp2_with fail
  refine (uh O1).mono ?_
  rintro e w2 ⟨rfl, -, f2⟩
  have F2 := hide ((uh F1).trans f2)
  clear f2 O1
  go_wp2
  go_ret2
  exact ⟨0, none, rfl, ⟨fun _ => rfl, fun h => by simp at h, uh F2⟩⟩
 ·
  go_enter Tryz.func138, Tryz.ntmps138
  go_wp2_with fail
  refine (uh HS _).mono ?_
  rintro e w9 ⟨rfl, hw9⟩
  rw [hw9]
  clear hw9 w9
  go_wp2_with fail
  refine (uh O1).mono ?_
  rintro e w2 ⟨rfl, p2, f2⟩
  have F2 := hide ((uh F1).trans f2)
  have H2 := hide (p2 (by trivial))
  have R2 := hide (f2.row (uh R1) (by have := uh GL; omega) (fun e => by have := uh YL _ e; omega))
  obtain ⟨cp, -⟩ := uh PL _ (by trivial) (uh H2)
  have OP := hide (uh O2 _ (uh H2))
  clear p2 f2 O1 O2 PL
  clear k0 k1 k2 k3
  have k4 := insR 4 _ (uh R2) rfl
  have k5 := insR 5 _ (uh R2) rfl
  have k6 := insR 6 _ (uh R2) rfl
  go_wp2_with fail
  refine (uh OP).mono ?_
  rintro e w3 ⟨rfl, p3, f3⟩
  have F3 := hide ((uh F2).trans f3)
  have H3 := hide p3
  clear p3 f3 OP
  cases b2
  ·
   go_wp2
   go_ret2
   exact ⟨v1, none, rfl, ⟨fun _ => rfl, fun h => by simp at h, uh F3⟩⟩
  ·
   go_wp2
   go_ret2
   exact ⟨v1, _, rfl, ⟨fun h => by simp at h, fun _ => ⟨rfl, rfl, uh H3 (by trivial)⟩, uh F3⟩⟩
theorem os_one (g B gr rc op sm sr dm dr : Nat) (sx dx n : Int) (y : Mv) (t : Ms) (st : Int) (w : World) (h : Pz w g B gr rc y t st t.d.m) (hk : Dk t.d) (h7 : 7 ≤ op) (d7 : dm ≤ 7) (d8 : dr < 8) : OsIs g B gr rc op sm sr dm dr sx dx n y t st w := by
 have GL := hide h.gl
 have YL := hide (fun b (hb : y.at b) => h.yl hb)
 have HS := hide (fun v => hasSrc_any (op : Int) v)
 rw [show inB (op : Int) 1 6 = false by unfold inB; simp; omega] at HS
 have H1 := hide (h.later (below_new w (Obj.cells #[.int .i64 (op : Int), .int .i64 (sm : Int), .int .i64 (sr : Int), .int .i64 sx, .int .i64 (dm : Int), .int .i64 (dr : Int), .int .i64 dx, .int .i64 n] 69)))
 have F1 := hide (Fm.of (g := g) (y := y) (below_new w (Obj.cells #[.int .i64 (op : Int), .int .i64 (sm : Int), .int .i64 (sr : Int), .int .i64 sx, .int .i64 (dm : Int), .int .i64 (dr : Int), .int .i64 dx, .int .i64 n] 69)))
 have R1 := hide (heap_alloc_last w (Obj.cells #[.int .i64 (op : Int), .int .i64 (sm : Int), .int .i64 (sr : Int), .int .i64 sx, .int .i64 (dm : Int), .int .i64 (dr : Int), .int .i64 dx, .int .i64 n] 69))
 have OP := hide (operand_any g B gr rc dm dr dx y t st _ (uh H1) hk d7 d8)
 unfold OsIs Ms.woB Ms.woT Ms.sB Ms.sT Ms.sV
 simp only [if_neg (show ¬ op ≤ 6 by omega), Bool.true_and]
 generalize t.opB dm dr = b2 at OP ⊢
 generalize t.opP g gr dm dr = p2 at OP ⊢
 generalize t.op dm dr = t2 at OP ⊢
 clear h hk
 have k0 := insR 0 _ (uh R1) rfl
 have k4 := insR 4 _ (uh R1) rfl
 have k5 := insR 5 _ (uh R1) rfl
 have k6 := insR 6 _ (uh R1) rfl
 go_enter Tryz.func138, Tryz.ntmps138
 go_wp2_with fail
 refine (uh HS _).mono ?_
 rintro e w9 ⟨rfl, hw9⟩
 rw [hw9]
 clear hw9 w9
 go_wp2_with fail
 refine (uh OP).mono ?_
 rintro e w3 ⟨rfl, p3, f3⟩
 have F3 := hide ((uh F1).trans f3)
 have H3 := hide p3
 clear p3 f3 OP
 cases b2
 ·
  go_wp2
  go_ret2
  exact ⟨0, none, rfl, ⟨fun _ => rfl, fun h => by simp at h, uh F3⟩⟩
 ·
  go_wp2
  go_ret2
  exact ⟨0, _, rfl, ⟨fun h => by simp at h, fun _ => ⟨rfl, rfl, uh H3 (by trivial)⟩, uh F3⟩⟩
theorem os_any (g B gr rc op sm sr dm dr : Nat) (sx dx n : Int) (y : Mv) (t : Ms) (st : Int) (w : World) (h : Pz w g B gr rc y t st t.d.m) (hk : Dk t.d) (h1 : 1 ≤ op) (hs : op ≤ 6 → sm ≤ 7 ∧ sr < 8) (d7 : dm ≤ 7) (d8 : dr < 8) : OsIs g B gr rc op sm sr dm dr sx dx n y t st w := by
 by_cases h6 : op ≤ 6
 · exact os_two g B gr rc op sm sr dm dr sx dx n y t st w h hk h1 h6 (hs h6).1 (hs h6).2 d7 d8
 · exact os_one g B gr rc op sm sr dm dr sx dx n y t st w h hk (by omega) d7 d8
end
end Go.Proofs.YtjpbjbnialehbaaGreatDoor
