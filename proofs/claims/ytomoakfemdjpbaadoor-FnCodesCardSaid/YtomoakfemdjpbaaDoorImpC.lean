/- Contracts of the program's InsOk and Words, over this seat's translation; conditions stand as hypotheses of each. -/
import Derived.Test.YtomoakfemdjpbaaDoorImpB
import Derived.Deep.RegionWith
namespace Go.Proofs.YtomoakfemdjpbaaDoor
open Go.ChangeShapes Go.WideShapes Go.ChangeAt Go.RowKit
set_option linter.unusedVariables false
set_option linter.unusedSimpArgs false

set_option maxHeartbeats 4000000 in
theorem insOkI_any (i : Is) (w : World) : Calls Tryd.prog 13 #[i.v] w fun e w' => e = .returned (.bool i.ok) ∧ Below w.heap.size w w' := by
  rw [← okI_eq]
  obtain ⟨op, ⟨sm, sr, sx⟩, ⟨dm, dr, dx⟩, n⟩ := i
  have HS := hide (box_below w (Obj.cells #[.int .i64 op, .int .i64 sm, .int .i64 sr, .int .i64 sx, .int .i64 dm, .int .i64 dr, .int .i64 dx, .int .i64 n] 27))
  have HZ := hide (show w.heap.size + 1 ≤ (w.alloc (Obj.cells #[.int .i64 op, .int .i64 sm, .int .i64 sr, .int .i64 sx, .int .i64 dm, .int .i64 dr, .int .i64 dx, .int .i64 n] 27)).heap.size by simp)
  have ne := Sub.ne (w.heap.size + 1) (w.alloc (Obj.cells #[.int .i64 op, .int .i64 sm, .int .i64 sr, .int .i64 sx, .int .i64 dm, .int .i64 dr, .int .i64 dx, .int .i64 n] 27))
  have c0 : ∀ y : Sub (w.heap.size + 1) (w.alloc (Obj.cells #[.int .i64 op, .int .i64 sm, .int .i64 sr, .int .i64 sx, .int .i64 dm, .int .i64 dr, .int .i64 dx, .int .i64 n] 27)), y.w.cell? ⟨w.heap.size, 0, none⟩ = some (.int .i64 op) := fun y => y.cells 0 _ rfl
  have c1 : ∀ y : Sub (w.heap.size + 1) (w.alloc (Obj.cells #[.int .i64 op, .int .i64 sm, .int .i64 sr, .int .i64 sx, .int .i64 dm, .int .i64 dr, .int .i64 dx, .int .i64 n] 27)), y.w.cell? ⟨w.heap.size, 1, none⟩ = some (.int .i64 sm) := fun y => y.cells 1 _ rfl
  have c2 : ∀ y : Sub (w.heap.size + 1) (w.alloc (Obj.cells #[.int .i64 op, .int .i64 sm, .int .i64 sr, .int .i64 sx, .int .i64 dm, .int .i64 dr, .int .i64 dx, .int .i64 n] 27)), y.w.cell? ⟨w.heap.size, 2, none⟩ = some (.int .i64 sr) := fun y => y.cells 2 _ rfl
  have c3 : ∀ y : Sub (w.heap.size + 1) (w.alloc (Obj.cells #[.int .i64 op, .int .i64 sm, .int .i64 sr, .int .i64 sx, .int .i64 dm, .int .i64 dr, .int .i64 dx, .int .i64 n] 27)), y.w.cell? ⟨w.heap.size, 3, none⟩ = some (.int .i64 sx) := fun y => y.cells 3 _ rfl
  have c4 : ∀ y : Sub (w.heap.size + 1) (w.alloc (Obj.cells #[.int .i64 op, .int .i64 sm, .int .i64 sr, .int .i64 sx, .int .i64 dm, .int .i64 dr, .int .i64 dx, .int .i64 n] 27)), y.w.cell? ⟨w.heap.size, 4, none⟩ = some (.int .i64 dm) := fun y => y.cells 4 _ rfl
  have c5 : ∀ y : Sub (w.heap.size + 1) (w.alloc (Obj.cells #[.int .i64 op, .int .i64 sm, .int .i64 sr, .int .i64 sx, .int .i64 dm, .int .i64 dr, .int .i64 dx, .int .i64 n] 27)), y.w.cell? ⟨w.heap.size, 5, none⟩ = some (.int .i64 dr) := fun y => y.cells 5 _ rfl
  have c6 : ∀ y : Sub (w.heap.size + 1) (w.alloc (Obj.cells #[.int .i64 op, .int .i64 sm, .int .i64 sr, .int .i64 sx, .int .i64 dm, .int .i64 dr, .int .i64 dx, .int .i64 n] 27)), y.w.cell? ⟨w.heap.size, 6, none⟩ = some (.int .i64 dx) := fun y => y.cells 6 _ rfl
  have c7 : ∀ y : Sub (w.heap.size + 1) (w.alloc (Obj.cells #[.int .i64 op, .int .i64 sm, .int .i64 sr, .int .i64 sx, .int .i64 dm, .int .i64 dr, .int .i64 dx, .int .i64 n] 27)), y.w.cell? ⟨w.heap.size, 7, none⟩ = some (.int .i64 n) := fun y => y.cells 7 _ rfl
  have FS := hide (fun b w => fits_any ⟨sm, sr, sx⟩ b w)
  have FD := hide (fun b w => fits_any ⟨dm, dr, dx⟩ b w)
  unfold Is.okI
  simp only
  obtain ⟨qs, hqs⟩ : ∃ q, Od.fits ⟨sm, sr, sx⟩ (inB op 1 6) = q := ⟨_, rfl⟩
  obtain ⟨qd, hqd⟩ : ∃ q, Od.fits ⟨dm, dr, dx⟩ (inB op 1 15) = q := ⟨_, rfl⟩
  rw [hqs, hqd]
  have FS' := hide (show ∀ w, Calls Tryd.prog 37 #[Od.v ⟨sm, sr, sx⟩, .bool (inB op 1 6)] w fun e w' => e = .returned (.bool qs) ∧ Below w.heap.size w w' from fun w => by rw [← hqs]; exact unhide FS _ w)
  have FD' := hide (show ∀ w, Calls Tryd.prog 37 #[Od.v ⟨dm, dr, dx⟩, .bool (inB op 1 15)] w fun e w' => e = .returned (.bool qd) ∧ Below w.heap.size w w' from fun w => by rw [← hqd]; exact unhide FD _ w)
  clear FS FD hqs hqd
  unfold Od.v at FS' FD'
  simp only at FS' FD'
  have F1 := hide (fun w => hasSrc_any op w)
  have F2 := hide (fun w => hasDst_any op w)
  generalize inB op 1 6 = p1 at F1 FS' ⊢
  generalize inB op 1 15 = p2 at F2 FD' ⊢
  generalize hlo : loN op = lo
  generalize hhi : hiN op = hi
  have BN := hide (fun w => bounds_any op w)
  rw [hlo, hhi] at BN
  clear hlo hhi
  unfold Is.v
  simp only
  cases h1 : decide (op < 1)
  · cases h2 : decide (23 < op)
    · have hin : inB op 1 23 = true := inB_t _ _ _ (by simp at h1 h2; omega)
      rw [hin, Bool.true_and]
      clear hin
      cases qs
      · go_enter Tryd.func13, Tryd.ntmps13
        go_wp2_with (go_at_call 36; refine (unhide BN _).mono ?_; rintro e w' ⟨rfl, hw'⟩; rw [hw']; clear hw' w')
        refine wp_region_sub (Sub.top w (Obj.cells #[.int .i64 op, .int .i64 sm, .int .i64 sr, .int .i64 sx, .int .i64 dm, .int .i64 dr, .int .i64 dx, .int .i64 n] 27)) (by kernel_rfl) (by kernel_rfl) ?_
        repeat (go_big_quiet_step (first | (go_at_call 38; exact Sub.same (unhide F1 _)) | (go_at_call 39; exact Sub.same (unhide F2 _)) | (go_at_call_of 37 sm; exact Sub.call (unhide HZ) (unhide FS' _)) | (go_at_call_of 37 dm; exact Sub.call (unhide HZ) (unhide FD' _))))
        refine wpQuiet_nil ?_
        intro y
        go_wp2
        go_ret
        exact ⟨rfl, unhide HS _ y.h⟩
      · cases qd
        · go_enter Tryd.func13, Tryd.ntmps13
          go_wp2_with (go_at_call 36; refine (unhide BN _).mono ?_; rintro e w' ⟨rfl, hw'⟩; rw [hw']; clear hw' w')
          refine wp_region_sub (Sub.top w (Obj.cells #[.int .i64 op, .int .i64 sm, .int .i64 sr, .int .i64 sx, .int .i64 dm, .int .i64 dr, .int .i64 dx, .int .i64 n] 27)) (by kernel_rfl) (by kernel_rfl) ?_
          repeat (go_big_quiet_step (first | (go_at_call 38; exact Sub.same (unhide F1 _)) | (go_at_call 39; exact Sub.same (unhide F2 _)) | (go_at_call_of 37 sm; exact Sub.call (unhide HZ) (unhide FS' _)) | (go_at_call_of 37 dm; exact Sub.call (unhide HZ) (unhide FD' _))))
          refine wpQuiet_nil ?_
          intro y
          go_wp2
          go_ret
          exact ⟨rfl, unhide HS _ y.h⟩
        · cases h3 : decide (lo ≤ n)
          · go_enter Tryd.func13, Tryd.ntmps13
            go_wp2_with (go_at_call 36; refine (unhide BN _).mono ?_; rintro e w' ⟨rfl, hw'⟩; rw [hw']; clear hw' w')
            refine wp_region_sub (Sub.top w (Obj.cells #[.int .i64 op, .int .i64 sm, .int .i64 sr, .int .i64 sx, .int .i64 dm, .int .i64 dr, .int .i64 dx, .int .i64 n] 27)) (by kernel_rfl) (by kernel_rfl) ?_
            repeat (go_big_quiet_step (first | (go_at_call 38; exact Sub.same (unhide F1 _)) | (go_at_call 39; exact Sub.same (unhide F2 _)) | (go_at_call_of 37 sm; exact Sub.call (unhide HZ) (unhide FS' _)) | (go_at_call_of 37 dm; exact Sub.call (unhide HZ) (unhide FD' _))))
            refine wpQuiet_nil ?_
            intro y
            go_wp2
            go_ret
            exact ⟨rfl, unhide HS _ y.h⟩
          · cases h4 : decide (n ≤ hi)
            · go_enter Tryd.func13, Tryd.ntmps13
              go_wp2_with (go_at_call 36; refine (unhide BN _).mono ?_; rintro e w' ⟨rfl, hw'⟩; rw [hw']; clear hw' w')
              refine wp_region_sub (Sub.top w (Obj.cells #[.int .i64 op, .int .i64 sm, .int .i64 sr, .int .i64 sx, .int .i64 dm, .int .i64 dr, .int .i64 dx, .int .i64 n] 27)) (by kernel_rfl) (by kernel_rfl) ?_
              repeat (go_big_quiet_step (first | (go_at_call 38; exact Sub.same (unhide F1 _)) | (go_at_call 39; exact Sub.same (unhide F2 _)) | (go_at_call_of 37 sm; exact Sub.call (unhide HZ) (unhide FS' _)) | (go_at_call_of 37 dm; exact Sub.call (unhide HZ) (unhide FD' _))))
              refine wpQuiet_nil ?_
              intro y
              go_wp2
              go_ret
              exact ⟨rfl, unhide HS _ y.h⟩
            · go_enter Tryd.func13, Tryd.ntmps13
              go_wp2_with (go_at_call 36; refine (unhide BN _).mono ?_; rintro e w' ⟨rfl, hw'⟩; rw [hw']; clear hw' w')
              refine wp_region_sub (Sub.top w (Obj.cells #[.int .i64 op, .int .i64 sm, .int .i64 sr, .int .i64 sx, .int .i64 dm, .int .i64 dr, .int .i64 dx, .int .i64 n] 27)) (by kernel_rfl) (by kernel_rfl) ?_
              repeat (go_big_quiet_step (first | (go_at_call 38; exact Sub.same (unhide F1 _)) | (go_at_call 39; exact Sub.same (unhide F2 _)) | (go_at_call_of 37 sm; exact Sub.call (unhide HZ) (unhide FS' _)) | (go_at_call_of 37 dm; exact Sub.call (unhide HZ) (unhide FD' _))))
              refine wpQuiet_nil ?_
              intro y
              go_wp2
              go_ret
              exact ⟨rfl, unhide HS _ y.h⟩
    · have hin : inB op 1 23 = false := inB_f _ _ _ (by simp at *; omega)
      rw [hin, Bool.false_and]
      clear hin
      go_enter Tryd.func13, Tryd.ntmps13
      go_wp2
      go_ret
      exact ⟨rfl, unhide HS _ (Below.refl _ _)⟩
  · have hin : inB op 1 23 = false := inB_f _ _ _ (by simp at *; omega)
    rw [hin, Bool.false_and]
    clear hin
    go_enter Tryd.func13, Tryd.ntmps13
    go_wp2
    go_ret
    exact ⟨rfl, unhide HS _ (Below.refl _ _)⟩

set_option maxHeartbeats 4000000 in
theorem wordsI_any (i : Is) (w : World) : Calls Tryd.prog 14 #[i.v] w fun e w' => e = .returned (.int .i64 i.words) ∧ Below w.heap.size w w' := by
  obtain ⟨op, ⟨sm, sr, sx⟩, ⟨dm, dr, dx⟩, n⟩ := i
  have HS := hide (box_below w (Obj.cells #[.int .i64 op, .int .i64 sm, .int .i64 sr, .int .i64 sx, .int .i64 dm, .int .i64 dr, .int .i64 dx, .int .i64 n] 27))
  have HZ := hide (show w.heap.size + 1 ≤ (w.alloc (Obj.cells #[.int .i64 op, .int .i64 sm, .int .i64 sr, .int .i64 sx, .int .i64 dm, .int .i64 dr, .int .i64 dx, .int .i64 n] 27)).heap.size by simp)
  have ne := Sub.ne (w.heap.size + 1) (w.alloc (Obj.cells #[.int .i64 op, .int .i64 sm, .int .i64 sr, .int .i64 sx, .int .i64 dm, .int .i64 dr, .int .i64 dx, .int .i64 n] 27))
  have c0 : ∀ y : Sub (w.heap.size + 1) (w.alloc (Obj.cells #[.int .i64 op, .int .i64 sm, .int .i64 sr, .int .i64 sx, .int .i64 dm, .int .i64 dr, .int .i64 dx, .int .i64 n] 27)), y.w.cell? ⟨w.heap.size, 0, none⟩ = some (.int .i64 op) := fun y => y.cells 0 _ rfl
  have c1 : ∀ y : Sub (w.heap.size + 1) (w.alloc (Obj.cells #[.int .i64 op, .int .i64 sm, .int .i64 sr, .int .i64 sx, .int .i64 dm, .int .i64 dr, .int .i64 dx, .int .i64 n] 27)), y.w.cell? ⟨w.heap.size, 1, none⟩ = some (.int .i64 sm) := fun y => y.cells 1 _ rfl
  have c2 : ∀ y : Sub (w.heap.size + 1) (w.alloc (Obj.cells #[.int .i64 op, .int .i64 sm, .int .i64 sr, .int .i64 sx, .int .i64 dm, .int .i64 dr, .int .i64 dx, .int .i64 n] 27)), y.w.cell? ⟨w.heap.size, 2, none⟩ = some (.int .i64 sr) := fun y => y.cells 2 _ rfl
  have c3 : ∀ y : Sub (w.heap.size + 1) (w.alloc (Obj.cells #[.int .i64 op, .int .i64 sm, .int .i64 sr, .int .i64 sx, .int .i64 dm, .int .i64 dr, .int .i64 dx, .int .i64 n] 27)), y.w.cell? ⟨w.heap.size, 3, none⟩ = some (.int .i64 sx) := fun y => y.cells 3 _ rfl
  have c4 : ∀ y : Sub (w.heap.size + 1) (w.alloc (Obj.cells #[.int .i64 op, .int .i64 sm, .int .i64 sr, .int .i64 sx, .int .i64 dm, .int .i64 dr, .int .i64 dx, .int .i64 n] 27)), y.w.cell? ⟨w.heap.size, 4, none⟩ = some (.int .i64 dm) := fun y => y.cells 4 _ rfl
  have c5 : ∀ y : Sub (w.heap.size + 1) (w.alloc (Obj.cells #[.int .i64 op, .int .i64 sm, .int .i64 sr, .int .i64 sx, .int .i64 dm, .int .i64 dr, .int .i64 dx, .int .i64 n] 27)), y.w.cell? ⟨w.heap.size, 5, none⟩ = some (.int .i64 dr) := fun y => y.cells 5 _ rfl
  have c6 : ∀ y : Sub (w.heap.size + 1) (w.alloc (Obj.cells #[.int .i64 op, .int .i64 sm, .int .i64 sr, .int .i64 sx, .int .i64 dm, .int .i64 dr, .int .i64 dx, .int .i64 n] 27)), y.w.cell? ⟨w.heap.size, 6, none⟩ = some (.int .i64 dx) := fun y => y.cells 6 _ rfl
  have c7 : ∀ y : Sub (w.heap.size + 1) (w.alloc (Obj.cells #[.int .i64 op, .int .i64 sm, .int .i64 sr, .int .i64 sx, .int .i64 dm, .int .i64 dr, .int .i64 dx, .int .i64 n] 27)), y.w.cell? ⟨w.heap.size, 7, none⟩ = some (.int .i64 n) := fun y => y.cells 7 _ rfl
  have FS := hide (fun w => hasXI_any ⟨sm, sr, sx⟩ w)
  have FD := hide (fun w => hasXI_any ⟨dm, dr, dx⟩ w)
  unfold Is.words
  simp only
  generalize Od.hasX ⟨sm, sr, sx⟩ = qs at FS ⊢
  generalize Od.hasX ⟨dm, dr, dx⟩ = qd at FD ⊢
  unfold Od.v at FS FD
  simp only at FS FD
  have F1 := hide (fun w => hasSrc_any op w)
  have F2 := hide (fun w => hasDst_any op w)
  generalize inB op 1 6 = p1 at F1 ⊢
  generalize inB op 1 15 = p2 at F2 ⊢
  unfold Is.v
  simp only
  cases p1
  · cases p2
    · go_enter Tryd.func14, Tryd.ntmps14
      go_wp2_with (first | (go_at_call 38; refine (unhide F1 _).mono ?_; rintro e w' ⟨rfl, hw'⟩; rw [hw']; clear hw' w') | (go_at_call 39; refine (unhide F2 _).mono ?_; rintro e w' ⟨rfl, hw'⟩; rw [hw']; clear hw' w'))
      go_ret
      exact ⟨rfl, unhide HS _ (Below.refl _ _)⟩
    · cases qd
      · go_enter Tryd.func14, Tryd.ntmps14
        go_wp2_with (first | (go_at_call 38; refine (unhide F1 _).mono ?_; rintro e w' ⟨rfl, hw'⟩; rw [hw']; clear hw' w') | (go_at_call 39; refine (unhide F2 _).mono ?_; rintro e w' ⟨rfl, hw'⟩; rw [hw']; clear hw' w'))
        refine (Sub.call (x := Sub.top w (Obj.cells #[.int .i64 op, .int .i64 sm, .int .i64 sr, .int .i64 sx, .int .i64 dm, .int .i64 dr, .int .i64 dx, .int .i64 n] 27)) (unhide HZ) (unhide FD _)).mono ?_
        rintro e _ ⟨rfl, y0, rfl⟩
        go_wp2_with (first | (go_at_call 38; refine (unhide F1 _).mono ?_; rintro e w' ⟨rfl, hw'⟩; rw [hw']; clear hw' w') | (go_at_call 39; refine (unhide F2 _).mono ?_; rintro e w' ⟨rfl, hw'⟩; rw [hw']; clear hw' w'))
        go_ret
        exact ⟨rfl, unhide HS _ y0.h⟩
      · go_enter Tryd.func14, Tryd.ntmps14
        go_wp2_with (first | (go_at_call 38; refine (unhide F1 _).mono ?_; rintro e w' ⟨rfl, hw'⟩; rw [hw']; clear hw' w') | (go_at_call 39; refine (unhide F2 _).mono ?_; rintro e w' ⟨rfl, hw'⟩; rw [hw']; clear hw' w'))
        refine (Sub.call (x := Sub.top w (Obj.cells #[.int .i64 op, .int .i64 sm, .int .i64 sr, .int .i64 sx, .int .i64 dm, .int .i64 dr, .int .i64 dx, .int .i64 n] 27)) (unhide HZ) (unhide FD _)).mono ?_
        rintro e _ ⟨rfl, y0, rfl⟩
        go_wp2_with (first | (go_at_call 38; refine (unhide F1 _).mono ?_; rintro e w' ⟨rfl, hw'⟩; rw [hw']; clear hw' w') | (go_at_call 39; refine (unhide F2 _).mono ?_; rintro e w' ⟨rfl, hw'⟩; rw [hw']; clear hw' w'))
        go_ret
        exact ⟨rfl, unhide HS _ y0.h⟩
  · cases qs
    · cases p2
      · go_enter Tryd.func14, Tryd.ntmps14
        go_wp2_with (first | (go_at_call 38; refine (unhide F1 _).mono ?_; rintro e w' ⟨rfl, hw'⟩; rw [hw']; clear hw' w') | (go_at_call 39; refine (unhide F2 _).mono ?_; rintro e w' ⟨rfl, hw'⟩; rw [hw']; clear hw' w'))
        refine (Sub.call (x := Sub.top w (Obj.cells #[.int .i64 op, .int .i64 sm, .int .i64 sr, .int .i64 sx, .int .i64 dm, .int .i64 dr, .int .i64 dx, .int .i64 n] 27)) (unhide HZ) (unhide FS _)).mono ?_
        rintro e _ ⟨rfl, y0, rfl⟩
        go_wp2_with (first | (go_at_call 38; refine (unhide F1 _).mono ?_; rintro e w' ⟨rfl, hw'⟩; rw [hw']; clear hw' w') | (go_at_call 39; refine (unhide F2 _).mono ?_; rintro e w' ⟨rfl, hw'⟩; rw [hw']; clear hw' w'))
        go_ret
        exact ⟨rfl, unhide HS _ y0.h⟩
      · cases qd
        · go_enter Tryd.func14, Tryd.ntmps14
          go_wp2_with (first | (go_at_call 38; refine (unhide F1 _).mono ?_; rintro e w' ⟨rfl, hw'⟩; rw [hw']; clear hw' w') | (go_at_call 39; refine (unhide F2 _).mono ?_; rintro e w' ⟨rfl, hw'⟩; rw [hw']; clear hw' w'))
          refine (Sub.call (x := Sub.top w (Obj.cells #[.int .i64 op, .int .i64 sm, .int .i64 sr, .int .i64 sx, .int .i64 dm, .int .i64 dr, .int .i64 dx, .int .i64 n] 27)) (unhide HZ) (unhide FS _)).mono ?_
          rintro e _ ⟨rfl, y0, rfl⟩
          go_wp2_with (first | (go_at_call 38; refine (unhide F1 _).mono ?_; rintro e w' ⟨rfl, hw'⟩; rw [hw']; clear hw' w') | (go_at_call 39; refine (unhide F2 _).mono ?_; rintro e w' ⟨rfl, hw'⟩; rw [hw']; clear hw' w'))
          refine (Sub.call (x := y0) (unhide HZ) (unhide FD _)).mono ?_
          rintro e _ ⟨rfl, y1, rfl⟩
          go_wp2_with (first | (go_at_call 38; refine (unhide F1 _).mono ?_; rintro e w' ⟨rfl, hw'⟩; rw [hw']; clear hw' w') | (go_at_call 39; refine (unhide F2 _).mono ?_; rintro e w' ⟨rfl, hw'⟩; rw [hw']; clear hw' w'))
          go_ret
          exact ⟨rfl, unhide HS _ y1.h⟩
        · go_enter Tryd.func14, Tryd.ntmps14
          go_wp2_with (first | (go_at_call 38; refine (unhide F1 _).mono ?_; rintro e w' ⟨rfl, hw'⟩; rw [hw']; clear hw' w') | (go_at_call 39; refine (unhide F2 _).mono ?_; rintro e w' ⟨rfl, hw'⟩; rw [hw']; clear hw' w'))
          refine (Sub.call (x := Sub.top w (Obj.cells #[.int .i64 op, .int .i64 sm, .int .i64 sr, .int .i64 sx, .int .i64 dm, .int .i64 dr, .int .i64 dx, .int .i64 n] 27)) (unhide HZ) (unhide FS _)).mono ?_
          rintro e _ ⟨rfl, y0, rfl⟩
          go_wp2_with (first | (go_at_call 38; refine (unhide F1 _).mono ?_; rintro e w' ⟨rfl, hw'⟩; rw [hw']; clear hw' w') | (go_at_call 39; refine (unhide F2 _).mono ?_; rintro e w' ⟨rfl, hw'⟩; rw [hw']; clear hw' w'))
          refine (Sub.call (x := y0) (unhide HZ) (unhide FD _)).mono ?_
          rintro e _ ⟨rfl, y1, rfl⟩
          go_wp2_with (first | (go_at_call 38; refine (unhide F1 _).mono ?_; rintro e w' ⟨rfl, hw'⟩; rw [hw']; clear hw' w') | (go_at_call 39; refine (unhide F2 _).mono ?_; rintro e w' ⟨rfl, hw'⟩; rw [hw']; clear hw' w'))
          go_ret
          exact ⟨rfl, unhide HS _ y1.h⟩
    · cases p2
      · go_enter Tryd.func14, Tryd.ntmps14
        go_wp2_with (first | (go_at_call 38; refine (unhide F1 _).mono ?_; rintro e w' ⟨rfl, hw'⟩; rw [hw']; clear hw' w') | (go_at_call 39; refine (unhide F2 _).mono ?_; rintro e w' ⟨rfl, hw'⟩; rw [hw']; clear hw' w'))
        refine (Sub.call (x := Sub.top w (Obj.cells #[.int .i64 op, .int .i64 sm, .int .i64 sr, .int .i64 sx, .int .i64 dm, .int .i64 dr, .int .i64 dx, .int .i64 n] 27)) (unhide HZ) (unhide FS _)).mono ?_
        rintro e _ ⟨rfl, y0, rfl⟩
        go_wp2_with (first | (go_at_call 38; refine (unhide F1 _).mono ?_; rintro e w' ⟨rfl, hw'⟩; rw [hw']; clear hw' w') | (go_at_call 39; refine (unhide F2 _).mono ?_; rintro e w' ⟨rfl, hw'⟩; rw [hw']; clear hw' w'))
        go_ret
        exact ⟨rfl, unhide HS _ y0.h⟩
      · cases qd
        · go_enter Tryd.func14, Tryd.ntmps14
          go_wp2_with (first | (go_at_call 38; refine (unhide F1 _).mono ?_; rintro e w' ⟨rfl, hw'⟩; rw [hw']; clear hw' w') | (go_at_call 39; refine (unhide F2 _).mono ?_; rintro e w' ⟨rfl, hw'⟩; rw [hw']; clear hw' w'))
          refine (Sub.call (x := Sub.top w (Obj.cells #[.int .i64 op, .int .i64 sm, .int .i64 sr, .int .i64 sx, .int .i64 dm, .int .i64 dr, .int .i64 dx, .int .i64 n] 27)) (unhide HZ) (unhide FS _)).mono ?_
          rintro e _ ⟨rfl, y0, rfl⟩
          go_wp2_with (first | (go_at_call 38; refine (unhide F1 _).mono ?_; rintro e w' ⟨rfl, hw'⟩; rw [hw']; clear hw' w') | (go_at_call 39; refine (unhide F2 _).mono ?_; rintro e w' ⟨rfl, hw'⟩; rw [hw']; clear hw' w'))
          refine (Sub.call (x := y0) (unhide HZ) (unhide FD _)).mono ?_
          rintro e _ ⟨rfl, y1, rfl⟩
          go_wp2_with (first | (go_at_call 38; refine (unhide F1 _).mono ?_; rintro e w' ⟨rfl, hw'⟩; rw [hw']; clear hw' w') | (go_at_call 39; refine (unhide F2 _).mono ?_; rintro e w' ⟨rfl, hw'⟩; rw [hw']; clear hw' w'))
          go_ret
          exact ⟨rfl, unhide HS _ y1.h⟩
        · go_enter Tryd.func14, Tryd.ntmps14
          go_wp2_with (first | (go_at_call 38; refine (unhide F1 _).mono ?_; rintro e w' ⟨rfl, hw'⟩; rw [hw']; clear hw' w') | (go_at_call 39; refine (unhide F2 _).mono ?_; rintro e w' ⟨rfl, hw'⟩; rw [hw']; clear hw' w'))
          refine (Sub.call (x := Sub.top w (Obj.cells #[.int .i64 op, .int .i64 sm, .int .i64 sr, .int .i64 sx, .int .i64 dm, .int .i64 dr, .int .i64 dx, .int .i64 n] 27)) (unhide HZ) (unhide FS _)).mono ?_
          rintro e _ ⟨rfl, y0, rfl⟩
          go_wp2_with (first | (go_at_call 38; refine (unhide F1 _).mono ?_; rintro e w' ⟨rfl, hw'⟩; rw [hw']; clear hw' w') | (go_at_call 39; refine (unhide F2 _).mono ?_; rintro e w' ⟨rfl, hw'⟩; rw [hw']; clear hw' w'))
          refine (Sub.call (x := y0) (unhide HZ) (unhide FD _)).mono ?_
          rintro e _ ⟨rfl, y1, rfl⟩
          go_wp2_with (first | (go_at_call 38; refine (unhide F1 _).mono ?_; rintro e w' ⟨rfl, hw'⟩; rw [hw']; clear hw' w') | (go_at_call 39; refine (unhide F2 _).mono ?_; rintro e w' ⟨rfl, hw'⟩; rw [hw']; clear hw' w'))
          go_ret
          exact ⟨rfl, unhide HS _ y1.h⟩
end Go.Proofs.YtomoakfemdjpbaaDoor
