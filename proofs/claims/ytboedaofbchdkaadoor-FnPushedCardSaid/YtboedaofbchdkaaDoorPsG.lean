/- Contracts over this seat's translation, laid together; conditions stand as hypotheses of each. -/
import Derived.Test.YtboedaofbchdkaaDoorPsE
import Derived.Test.YtboedaofbchdkaaDoorPsF
import Derived.Laws.EntriesVeiled
import Derived.Deep.WholeRow
import Derived.Deep.RegionWith

namespace Go.Proofs.YtboedaofbchdkaaDoor
open Go.ChangeShapes Go.WideShapes Go.ChangeAt Go.RowKit
set_option linter.unusedVariables false
set_option maxRecDepth 8000
set_option linter.unusedSimpArgs false
set_option maxHeartbeats 4000000 in
theorem insOkI_any (i : Is) (w : World) : Calls Tryd.prog 18 #[i.v] w fun e w' => e = .returned (.bool i.ok) ∧ Below w.heap.size w w' := by
  rw [← okI_eq]
  obtain ⟨op, ⟨sm, sr, sx⟩, ⟨dm, dr, dx⟩, n⟩ := i
  have HS := hide (box_below w (Obj.cells #[.int .i64 op, .int .i64 sm, .int .i64 sr, .int .i64 sx, .int .i64 dm, .int .i64 dr, .int .i64 dx, .int .i64 n] 30))
  have HZ := hide (show w.heap.size + 1 ≤ (w.alloc (Obj.cells #[.int .i64 op, .int .i64 sm, .int .i64 sr, .int .i64 sx, .int .i64 dm, .int .i64 dr, .int .i64 dx, .int .i64 n] 30)).heap.size by simp)
  have ne := Sub.ne (w.heap.size + 1) (w.alloc (Obj.cells #[.int .i64 op, .int .i64 sm, .int .i64 sr, .int .i64 sx, .int .i64 dm, .int .i64 dr, .int .i64 dx, .int .i64 n] 30))
  have c0 : ∀ y : Sub (w.heap.size + 1) (w.alloc (Obj.cells #[.int .i64 op, .int .i64 sm, .int .i64 sr, .int .i64 sx, .int .i64 dm, .int .i64 dr, .int .i64 dx, .int .i64 n] 30)), y.w.cell? ⟨w.heap.size, 0, none⟩ = some (.int .i64 op) := fun y => y.cells 0 _ rfl
  have c1 : ∀ y : Sub (w.heap.size + 1) (w.alloc (Obj.cells #[.int .i64 op, .int .i64 sm, .int .i64 sr, .int .i64 sx, .int .i64 dm, .int .i64 dr, .int .i64 dx, .int .i64 n] 30)), y.w.cell? ⟨w.heap.size, 1, none⟩ = some (.int .i64 sm) := fun y => y.cells 1 _ rfl
  have c2 : ∀ y : Sub (w.heap.size + 1) (w.alloc (Obj.cells #[.int .i64 op, .int .i64 sm, .int .i64 sr, .int .i64 sx, .int .i64 dm, .int .i64 dr, .int .i64 dx, .int .i64 n] 30)), y.w.cell? ⟨w.heap.size, 2, none⟩ = some (.int .i64 sr) := fun y => y.cells 2 _ rfl
  have c3 : ∀ y : Sub (w.heap.size + 1) (w.alloc (Obj.cells #[.int .i64 op, .int .i64 sm, .int .i64 sr, .int .i64 sx, .int .i64 dm, .int .i64 dr, .int .i64 dx, .int .i64 n] 30)), y.w.cell? ⟨w.heap.size, 3, none⟩ = some (.int .i64 sx) := fun y => y.cells 3 _ rfl
  have c4 : ∀ y : Sub (w.heap.size + 1) (w.alloc (Obj.cells #[.int .i64 op, .int .i64 sm, .int .i64 sr, .int .i64 sx, .int .i64 dm, .int .i64 dr, .int .i64 dx, .int .i64 n] 30)), y.w.cell? ⟨w.heap.size, 4, none⟩ = some (.int .i64 dm) := fun y => y.cells 4 _ rfl
  have c5 : ∀ y : Sub (w.heap.size + 1) (w.alloc (Obj.cells #[.int .i64 op, .int .i64 sm, .int .i64 sr, .int .i64 sx, .int .i64 dm, .int .i64 dr, .int .i64 dx, .int .i64 n] 30)), y.w.cell? ⟨w.heap.size, 5, none⟩ = some (.int .i64 dr) := fun y => y.cells 5 _ rfl
  have c6 : ∀ y : Sub (w.heap.size + 1) (w.alloc (Obj.cells #[.int .i64 op, .int .i64 sm, .int .i64 sr, .int .i64 sx, .int .i64 dm, .int .i64 dr, .int .i64 dx, .int .i64 n] 30)), y.w.cell? ⟨w.heap.size, 6, none⟩ = some (.int .i64 dx) := fun y => y.cells 6 _ rfl
  have c7 : ∀ y : Sub (w.heap.size + 1) (w.alloc (Obj.cells #[.int .i64 op, .int .i64 sm, .int .i64 sr, .int .i64 sx, .int .i64 dm, .int .i64 dr, .int .i64 dx, .int .i64 n] 30)), y.w.cell? ⟨w.heap.size, 7, none⟩ = some (.int .i64 n) := fun y => y.cells 7 _ rfl
  have FS := hide (fun b w => fits_any ⟨sm, sr, sx⟩ b w)
  have FD := hide (fun b w => fits_any ⟨dm, dr, dx⟩ b w)
  unfold Is.okI
  simp only
  obtain ⟨qs, hqs⟩ : ∃ q, Od.fits ⟨sm, sr, sx⟩ (inB op 1 6) = q := ⟨_, rfl⟩
  obtain ⟨qd, hqd⟩ : ∃ q, Od.fits ⟨dm, dr, dx⟩ (inB op 1 15) = q := ⟨_, rfl⟩
  rw [hqs, hqd]
  have FS' := hide (show ∀ w, Calls Tryd.prog 44 #[Od.v ⟨sm, sr, sx⟩, .bool (inB op 1 6)] w fun e w' => e = .returned (.bool qs) ∧ Below w.heap.size w w' from fun w => by rw [← hqs]; exact unhide FS _ w)
  have FD' := hide (show ∀ w, Calls Tryd.prog 44 #[Od.v ⟨dm, dr, dx⟩, .bool (inB op 1 15)] w fun e w' => e = .returned (.bool qd) ∧ Below w.heap.size w w' from fun w => by rw [← hqd]; exact unhide FD _ w)
  clear FS FD hqs hqd
  unfold Od.v at FS' FD'
  simp only at FS' FD'
  have F1 := hide (fun w => hasSrc_any op w)
  have F2 := hide (fun w => hasDst_any op w)
  generalize inB op 1 6 = p1 at F1 FS' ⊢
  generalize inB op 1 15 = p2 at F2 FD' ⊢
  generalize hlo : loN op = lo
  generalize hhi : hiN op = hi
  have BN := hide (fun w => bounds_any op w)
  rw [hlo, hhi] at BN
  clear hlo hhi
  unfold Is.v
  simp only
  cases h1 : decide (op < 1)
  · cases h2 : decide (23 < op)
    · have hin : inB op 1 23 = true := inB_tQ _ _ _ (by simp at h1 h2; omega)
      rw [hin, Bool.true_and]
      clear hin
      cases qs
      · go_enter Tryd.func18, Tryd.ntmps18
        go_wp2_with (go_at_call 43; refine (unhide BN _).mono ?_; rintro e w' ⟨rfl, hw'⟩; rw [hw']; clear hw' w')
        refine wp_region_sub (Sub.top w (Obj.cells #[.int .i64 op, .int .i64 sm, .int .i64 sr, .int .i64 sx, .int .i64 dm, .int .i64 dr, .int .i64 dx, .int .i64 n] 30)) (by kernel_rfl) (by kernel_rfl) ?_
        repeat (go_big_quiet_step (first | (go_at_call 45; exact Sub.same (unhide F1 _)) | (go_at_call 46; exact Sub.same (unhide F2 _)) | (go_at_call_of 44 sm; exact Sub.call (unhide HZ) (unhide FS' _)) | (go_at_call_of 44 dm; exact Sub.call (unhide HZ) (unhide FD' _))))
        refine wpQuiet_nil ?_
        intro y
        go_wp2
        go_ret
        exact ⟨rfl, unhide HS _ y.h⟩
      · cases qd
        · go_enter Tryd.func18, Tryd.ntmps18
          go_wp2_with (go_at_call 43; refine (unhide BN _).mono ?_; rintro e w' ⟨rfl, hw'⟩; rw [hw']; clear hw' w')
          refine wp_region_sub (Sub.top w (Obj.cells #[.int .i64 op, .int .i64 sm, .int .i64 sr, .int .i64 sx, .int .i64 dm, .int .i64 dr, .int .i64 dx, .int .i64 n] 30)) (by kernel_rfl) (by kernel_rfl) ?_
          repeat (go_big_quiet_step (first | (go_at_call 45; exact Sub.same (unhide F1 _)) | (go_at_call 46; exact Sub.same (unhide F2 _)) | (go_at_call_of 44 sm; exact Sub.call (unhide HZ) (unhide FS' _)) | (go_at_call_of 44 dm; exact Sub.call (unhide HZ) (unhide FD' _))))
          refine wpQuiet_nil ?_
          intro y
          go_wp2
          go_ret
          exact ⟨rfl, unhide HS _ y.h⟩
        · cases h3 : decide (lo ≤ n)
          · go_enter Tryd.func18, Tryd.ntmps18
            go_wp2_with (go_at_call 43; refine (unhide BN _).mono ?_; rintro e w' ⟨rfl, hw'⟩; rw [hw']; clear hw' w')
            refine wp_region_sub (Sub.top w (Obj.cells #[.int .i64 op, .int .i64 sm, .int .i64 sr, .int .i64 sx, .int .i64 dm, .int .i64 dr, .int .i64 dx, .int .i64 n] 30)) (by kernel_rfl) (by kernel_rfl) ?_
            repeat (go_big_quiet_step (first | (go_at_call 45; exact Sub.same (unhide F1 _)) | (go_at_call 46; exact Sub.same (unhide F2 _)) | (go_at_call_of 44 sm; exact Sub.call (unhide HZ) (unhide FS' _)) | (go_at_call_of 44 dm; exact Sub.call (unhide HZ) (unhide FD' _))))
            refine wpQuiet_nil ?_
            intro y
            go_wp2
            go_ret
            exact ⟨rfl, unhide HS _ y.h⟩
          · cases h4 : decide (n ≤ hi)
            · go_enter Tryd.func18, Tryd.ntmps18
              go_wp2_with (go_at_call 43; refine (unhide BN _).mono ?_; rintro e w' ⟨rfl, hw'⟩; rw [hw']; clear hw' w')
              refine wp_region_sub (Sub.top w (Obj.cells #[.int .i64 op, .int .i64 sm, .int .i64 sr, .int .i64 sx, .int .i64 dm, .int .i64 dr, .int .i64 dx, .int .i64 n] 30)) (by kernel_rfl) (by kernel_rfl) ?_
              repeat (go_big_quiet_step (first | (go_at_call 45; exact Sub.same (unhide F1 _)) | (go_at_call 46; exact Sub.same (unhide F2 _)) | (go_at_call_of 44 sm; exact Sub.call (unhide HZ) (unhide FS' _)) | (go_at_call_of 44 dm; exact Sub.call (unhide HZ) (unhide FD' _))))
              refine wpQuiet_nil ?_
              intro y
              go_wp2
              go_ret
              exact ⟨rfl, unhide HS _ y.h⟩
            · go_enter Tryd.func18, Tryd.ntmps18
              go_wp2_with (go_at_call 43; refine (unhide BN _).mono ?_; rintro e w' ⟨rfl, hw'⟩; rw [hw']; clear hw' w')
              refine wp_region_sub (Sub.top w (Obj.cells #[.int .i64 op, .int .i64 sm, .int .i64 sr, .int .i64 sx, .int .i64 dm, .int .i64 dr, .int .i64 dx, .int .i64 n] 30)) (by kernel_rfl) (by kernel_rfl) ?_
              repeat (go_big_quiet_step (first | (go_at_call 45; exact Sub.same (unhide F1 _)) | (go_at_call 46; exact Sub.same (unhide F2 _)) | (go_at_call_of 44 sm; exact Sub.call (unhide HZ) (unhide FS' _)) | (go_at_call_of 44 dm; exact Sub.call (unhide HZ) (unhide FD' _))))
              refine wpQuiet_nil ?_
              intro y
              go_wp2
              go_ret
              exact ⟨rfl, unhide HS _ y.h⟩
    · have hin : inB op 1 23 = false := inB_fQ _ _ _ (by simp at *; omega)
      rw [hin, Bool.false_and]
      clear hin
      go_enter Tryd.func18, Tryd.ntmps18
      go_wp2
      go_ret
      exact ⟨rfl, unhide HS _ (Below.refl _ _)⟩
  · have hin : inB op 1 23 = false := inB_fQ _ _ _ (by simp at *; omega)
    rw [hin, Bool.false_and]
    clear hin
    go_enter Tryd.func18, Tryd.ntmps18
    go_wp2
    go_ret
    exact ⟨rfl, unhide HS _ (Below.refl _ _)⟩
set_option maxHeartbeats 4000000 in
theorem wordsI_anyQ (i : Is) (w : World) : Calls Tryd.prog 69 #[i.v] w fun e w' => e = .returned (.int .i64 i.words) ∧ Below w.heap.size w w' := by
  obtain ⟨op, ⟨sm, sr, sx⟩, ⟨dm, dr, dx⟩, n⟩ := i
  have HS := hide (box_below w (Obj.cells #[.int .i64 op, .int .i64 sm, .int .i64 sr, .int .i64 sx, .int .i64 dm, .int .i64 dr, .int .i64 dx, .int .i64 n] 30))
  have HZ := hide (show w.heap.size + 1 ≤ (w.alloc (Obj.cells #[.int .i64 op, .int .i64 sm, .int .i64 sr, .int .i64 sx, .int .i64 dm, .int .i64 dr, .int .i64 dx, .int .i64 n] 30)).heap.size by simp)
  have ne := Sub.ne (w.heap.size + 1) (w.alloc (Obj.cells #[.int .i64 op, .int .i64 sm, .int .i64 sr, .int .i64 sx, .int .i64 dm, .int .i64 dr, .int .i64 dx, .int .i64 n] 30))
  have c0 : ∀ y : Sub (w.heap.size + 1) (w.alloc (Obj.cells #[.int .i64 op, .int .i64 sm, .int .i64 sr, .int .i64 sx, .int .i64 dm, .int .i64 dr, .int .i64 dx, .int .i64 n] 30)), y.w.cell? ⟨w.heap.size, 0, none⟩ = some (.int .i64 op) := fun y => y.cells 0 _ rfl
  have c1 : ∀ y : Sub (w.heap.size + 1) (w.alloc (Obj.cells #[.int .i64 op, .int .i64 sm, .int .i64 sr, .int .i64 sx, .int .i64 dm, .int .i64 dr, .int .i64 dx, .int .i64 n] 30)), y.w.cell? ⟨w.heap.size, 1, none⟩ = some (.int .i64 sm) := fun y => y.cells 1 _ rfl
  have c2 : ∀ y : Sub (w.heap.size + 1) (w.alloc (Obj.cells #[.int .i64 op, .int .i64 sm, .int .i64 sr, .int .i64 sx, .int .i64 dm, .int .i64 dr, .int .i64 dx, .int .i64 n] 30)), y.w.cell? ⟨w.heap.size, 2, none⟩ = some (.int .i64 sr) := fun y => y.cells 2 _ rfl
  have c3 : ∀ y : Sub (w.heap.size + 1) (w.alloc (Obj.cells #[.int .i64 op, .int .i64 sm, .int .i64 sr, .int .i64 sx, .int .i64 dm, .int .i64 dr, .int .i64 dx, .int .i64 n] 30)), y.w.cell? ⟨w.heap.size, 3, none⟩ = some (.int .i64 sx) := fun y => y.cells 3 _ rfl
  have c4 : ∀ y : Sub (w.heap.size + 1) (w.alloc (Obj.cells #[.int .i64 op, .int .i64 sm, .int .i64 sr, .int .i64 sx, .int .i64 dm, .int .i64 dr, .int .i64 dx, .int .i64 n] 30)), y.w.cell? ⟨w.heap.size, 4, none⟩ = some (.int .i64 dm) := fun y => y.cells 4 _ rfl
  have c5 : ∀ y : Sub (w.heap.size + 1) (w.alloc (Obj.cells #[.int .i64 op, .int .i64 sm, .int .i64 sr, .int .i64 sx, .int .i64 dm, .int .i64 dr, .int .i64 dx, .int .i64 n] 30)), y.w.cell? ⟨w.heap.size, 5, none⟩ = some (.int .i64 dr) := fun y => y.cells 5 _ rfl
  have c6 : ∀ y : Sub (w.heap.size + 1) (w.alloc (Obj.cells #[.int .i64 op, .int .i64 sm, .int .i64 sr, .int .i64 sx, .int .i64 dm, .int .i64 dr, .int .i64 dx, .int .i64 n] 30)), y.w.cell? ⟨w.heap.size, 6, none⟩ = some (.int .i64 dx) := fun y => y.cells 6 _ rfl
  have c7 : ∀ y : Sub (w.heap.size + 1) (w.alloc (Obj.cells #[.int .i64 op, .int .i64 sm, .int .i64 sr, .int .i64 sx, .int .i64 dm, .int .i64 dr, .int .i64 dx, .int .i64 n] 30)), y.w.cell? ⟨w.heap.size, 7, none⟩ = some (.int .i64 n) := fun y => y.cells 7 _ rfl
  have FS := hide (fun w => hasXI_anyQ ⟨sm, sr, sx⟩ w)
  have FD := hide (fun w => hasXI_anyQ ⟨dm, dr, dx⟩ w)
  unfold Is.words
  simp only
  generalize Od.hasX ⟨sm, sr, sx⟩ = qs at FS ⊢
  generalize Od.hasX ⟨dm, dr, dx⟩ = qd at FD ⊢
  unfold Od.v at FS FD
  simp only at FS FD
  have F1 := hide (fun w => hasSrc_any op w)
  have F2 := hide (fun w => hasDst_any op w)
  generalize inB op 1 6 = p1 at F1 ⊢
  generalize inB op 1 15 = p2 at F2 ⊢
  unfold Is.v
  simp only
  cases p1
  · cases p2
    · go_enter Tryd.func69, Tryd.ntmps69
      go_wp2_with (first | (go_at_call 45; refine (unhide F1 _).mono ?_; rintro e w' ⟨rfl, hw'⟩; rw [hw']; clear hw' w') | (go_at_call 46; refine (unhide F2 _).mono ?_; rintro e w' ⟨rfl, hw'⟩; rw [hw']; clear hw' w'))
      go_ret
      exact ⟨rfl, unhide HS _ (Below.refl _ _)⟩
    · cases qd
      · go_enter Tryd.func69, Tryd.ntmps69
        go_wp2_with (first | (go_at_call 45; refine (unhide F1 _).mono ?_; rintro e w' ⟨rfl, hw'⟩; rw [hw']; clear hw' w') | (go_at_call 46; refine (unhide F2 _).mono ?_; rintro e w' ⟨rfl, hw'⟩; rw [hw']; clear hw' w'))
        refine (Sub.call (x := Sub.top w (Obj.cells #[.int .i64 op, .int .i64 sm, .int .i64 sr, .int .i64 sx, .int .i64 dm, .int .i64 dr, .int .i64 dx, .int .i64 n] 30)) (unhide HZ) (unhide FD _)).mono ?_
        rintro e _ ⟨rfl, y0, rfl⟩
        go_wp2_with (first | (go_at_call 45; refine (unhide F1 _).mono ?_; rintro e w' ⟨rfl, hw'⟩; rw [hw']; clear hw' w') | (go_at_call 46; refine (unhide F2 _).mono ?_; rintro e w' ⟨rfl, hw'⟩; rw [hw']; clear hw' w'))
        go_ret
        exact ⟨rfl, unhide HS _ y0.h⟩
      · go_enter Tryd.func69, Tryd.ntmps69
        go_wp2_with (first | (go_at_call 45; refine (unhide F1 _).mono ?_; rintro e w' ⟨rfl, hw'⟩; rw [hw']; clear hw' w') | (go_at_call 46; refine (unhide F2 _).mono ?_; rintro e w' ⟨rfl, hw'⟩; rw [hw']; clear hw' w'))
        refine (Sub.call (x := Sub.top w (Obj.cells #[.int .i64 op, .int .i64 sm, .int .i64 sr, .int .i64 sx, .int .i64 dm, .int .i64 dr, .int .i64 dx, .int .i64 n] 30)) (unhide HZ) (unhide FD _)).mono ?_
        rintro e _ ⟨rfl, y0, rfl⟩
        go_wp2_with (first | (go_at_call 45; refine (unhide F1 _).mono ?_; rintro e w' ⟨rfl, hw'⟩; rw [hw']; clear hw' w') | (go_at_call 46; refine (unhide F2 _).mono ?_; rintro e w' ⟨rfl, hw'⟩; rw [hw']; clear hw' w'))
        go_ret
        exact ⟨rfl, unhide HS _ y0.h⟩
  · cases qs
    · cases p2
      · go_enter Tryd.func69, Tryd.ntmps69
        go_wp2_with (first | (go_at_call 45; refine (unhide F1 _).mono ?_; rintro e w' ⟨rfl, hw'⟩; rw [hw']; clear hw' w') | (go_at_call 46; refine (unhide F2 _).mono ?_; rintro e w' ⟨rfl, hw'⟩; rw [hw']; clear hw' w'))
        refine (Sub.call (x := Sub.top w (Obj.cells #[.int .i64 op, .int .i64 sm, .int .i64 sr, .int .i64 sx, .int .i64 dm, .int .i64 dr, .int .i64 dx, .int .i64 n] 30)) (unhide HZ) (unhide FS _)).mono ?_
        rintro e _ ⟨rfl, y0, rfl⟩
        go_wp2_with (first | (go_at_call 45; refine (unhide F1 _).mono ?_; rintro e w' ⟨rfl, hw'⟩; rw [hw']; clear hw' w') | (go_at_call 46; refine (unhide F2 _).mono ?_; rintro e w' ⟨rfl, hw'⟩; rw [hw']; clear hw' w'))
        go_ret
        exact ⟨rfl, unhide HS _ y0.h⟩
      · cases qd
        · go_enter Tryd.func69, Tryd.ntmps69
          go_wp2_with (first | (go_at_call 45; refine (unhide F1 _).mono ?_; rintro e w' ⟨rfl, hw'⟩; rw [hw']; clear hw' w') | (go_at_call 46; refine (unhide F2 _).mono ?_; rintro e w' ⟨rfl, hw'⟩; rw [hw']; clear hw' w'))
          refine (Sub.call (x := Sub.top w (Obj.cells #[.int .i64 op, .int .i64 sm, .int .i64 sr, .int .i64 sx, .int .i64 dm, .int .i64 dr, .int .i64 dx, .int .i64 n] 30)) (unhide HZ) (unhide FS _)).mono ?_
          rintro e _ ⟨rfl, y0, rfl⟩
          go_wp2_with (first | (go_at_call 45; refine (unhide F1 _).mono ?_; rintro e w' ⟨rfl, hw'⟩; rw [hw']; clear hw' w') | (go_at_call 46; refine (unhide F2 _).mono ?_; rintro e w' ⟨rfl, hw'⟩; rw [hw']; clear hw' w'))
          refine (Sub.call (x := y0) (unhide HZ) (unhide FD _)).mono ?_
          rintro e _ ⟨rfl, y1, rfl⟩
          go_wp2_with (first | (go_at_call 45; refine (unhide F1 _).mono ?_; rintro e w' ⟨rfl, hw'⟩; rw [hw']; clear hw' w') | (go_at_call 46; refine (unhide F2 _).mono ?_; rintro e w' ⟨rfl, hw'⟩; rw [hw']; clear hw' w'))
          go_ret
          exact ⟨rfl, unhide HS _ y1.h⟩
        · go_enter Tryd.func69, Tryd.ntmps69
          go_wp2_with (first | (go_at_call 45; refine (unhide F1 _).mono ?_; rintro e w' ⟨rfl, hw'⟩; rw [hw']; clear hw' w') | (go_at_call 46; refine (unhide F2 _).mono ?_; rintro e w' ⟨rfl, hw'⟩; rw [hw']; clear hw' w'))
          refine (Sub.call (x := Sub.top w (Obj.cells #[.int .i64 op, .int .i64 sm, .int .i64 sr, .int .i64 sx, .int .i64 dm, .int .i64 dr, .int .i64 dx, .int .i64 n] 30)) (unhide HZ) (unhide FS _)).mono ?_
          rintro e _ ⟨rfl, y0, rfl⟩
          go_wp2_with (first | (go_at_call 45; refine (unhide F1 _).mono ?_; rintro e w' ⟨rfl, hw'⟩; rw [hw']; clear hw' w') | (go_at_call 46; refine (unhide F2 _).mono ?_; rintro e w' ⟨rfl, hw'⟩; rw [hw']; clear hw' w'))
          refine (Sub.call (x := y0) (unhide HZ) (unhide FD _)).mono ?_
          rintro e _ ⟨rfl, y1, rfl⟩
          go_wp2_with (first | (go_at_call 45; refine (unhide F1 _).mono ?_; rintro e w' ⟨rfl, hw'⟩; rw [hw']; clear hw' w') | (go_at_call 46; refine (unhide F2 _).mono ?_; rintro e w' ⟨rfl, hw'⟩; rw [hw']; clear hw' w'))
          go_ret
          exact ⟨rfl, unhide HS _ y1.h⟩
    · cases p2
      · go_enter Tryd.func69, Tryd.ntmps69
        go_wp2_with (first | (go_at_call 45; refine (unhide F1 _).mono ?_; rintro e w' ⟨rfl, hw'⟩; rw [hw']; clear hw' w') | (go_at_call 46; refine (unhide F2 _).mono ?_; rintro e w' ⟨rfl, hw'⟩; rw [hw']; clear hw' w'))
        refine (Sub.call (x := Sub.top w (Obj.cells #[.int .i64 op, .int .i64 sm, .int .i64 sr, .int .i64 sx, .int .i64 dm, .int .i64 dr, .int .i64 dx, .int .i64 n] 30)) (unhide HZ) (unhide FS _)).mono ?_
        rintro e _ ⟨rfl, y0, rfl⟩
        go_wp2_with (first | (go_at_call 45; refine (unhide F1 _).mono ?_; rintro e w' ⟨rfl, hw'⟩; rw [hw']; clear hw' w') | (go_at_call 46; refine (unhide F2 _).mono ?_; rintro e w' ⟨rfl, hw'⟩; rw [hw']; clear hw' w'))
        go_ret
        exact ⟨rfl, unhide HS _ y0.h⟩
      · cases qd
        · go_enter Tryd.func69, Tryd.ntmps69
          go_wp2_with (first | (go_at_call 45; refine (unhide F1 _).mono ?_; rintro e w' ⟨rfl, hw'⟩; rw [hw']; clear hw' w') | (go_at_call 46; refine (unhide F2 _).mono ?_; rintro e w' ⟨rfl, hw'⟩; rw [hw']; clear hw' w'))
          refine (Sub.call (x := Sub.top w (Obj.cells #[.int .i64 op, .int .i64 sm, .int .i64 sr, .int .i64 sx, .int .i64 dm, .int .i64 dr, .int .i64 dx, .int .i64 n] 30)) (unhide HZ) (unhide FS _)).mono ?_
          rintro e _ ⟨rfl, y0, rfl⟩
          go_wp2_with (first | (go_at_call 45; refine (unhide F1 _).mono ?_; rintro e w' ⟨rfl, hw'⟩; rw [hw']; clear hw' w') | (go_at_call 46; refine (unhide F2 _).mono ?_; rintro e w' ⟨rfl, hw'⟩; rw [hw']; clear hw' w'))
          refine (Sub.call (x := y0) (unhide HZ) (unhide FD _)).mono ?_
          rintro e _ ⟨rfl, y1, rfl⟩
          go_wp2_with (first | (go_at_call 45; refine (unhide F1 _).mono ?_; rintro e w' ⟨rfl, hw'⟩; rw [hw']; clear hw' w') | (go_at_call 46; refine (unhide F2 _).mono ?_; rintro e w' ⟨rfl, hw'⟩; rw [hw']; clear hw' w'))
          go_ret
          exact ⟨rfl, unhide HS _ y1.h⟩
        · go_enter Tryd.func69, Tryd.ntmps69
          go_wp2_with (first | (go_at_call 45; refine (unhide F1 _).mono ?_; rintro e w' ⟨rfl, hw'⟩; rw [hw']; clear hw' w') | (go_at_call 46; refine (unhide F2 _).mono ?_; rintro e w' ⟨rfl, hw'⟩; rw [hw']; clear hw' w'))
          refine (Sub.call (x := Sub.top w (Obj.cells #[.int .i64 op, .int .i64 sm, .int .i64 sr, .int .i64 sx, .int .i64 dm, .int .i64 dr, .int .i64 dx, .int .i64 n] 30)) (unhide HZ) (unhide FS _)).mono ?_
          rintro e _ ⟨rfl, y0, rfl⟩
          go_wp2_with (first | (go_at_call 45; refine (unhide F1 _).mono ?_; rintro e w' ⟨rfl, hw'⟩; rw [hw']; clear hw' w') | (go_at_call 46; refine (unhide F2 _).mono ?_; rintro e w' ⟨rfl, hw'⟩; rw [hw']; clear hw' w'))
          refine (Sub.call (x := y0) (unhide HZ) (unhide FD _)).mono ?_
          rintro e _ ⟨rfl, y1, rfl⟩
          go_wp2_with (first | (go_at_call 45; refine (unhide F1 _).mono ?_; rintro e w' ⟨rfl, hw'⟩; rw [hw']; clear hw' w') | (go_at_call 46; refine (unhide F2 _).mono ?_; rintro e w' ⟨rfl, hw'⟩; rw [hw']; clear hw' w'))
          go_ret
          exact ⟨rfl, unhide HS _ y1.h⟩
end Go.Proofs.YtboedaofbchdkaaDoor

namespace Go.Proofs.YtboedaofbchdkaaDoor
open Go.ChangeShapes Go.WideShapes Go.ChangeAt Go.RowKit
set_option linter.unusedVariables false
set_option maxRecDepth 8000
def opdOf (n : Int) : Od := ⟨n / 8 % 8, n % 8, 0⟩
end Go.Proofs.YtboedaofbchdkaaDoor

namespace Go.Proofs.YtboedaofbchdkaaDoor
open Go.ChangeShapes Go.WideShapes Go.ChangeAt Go.RowKit
set_option linter.unusedVariables false
set_option maxRecDepth 8000
set_option linter.unusedSimpArgs false
theorem bits_or (n m k : Nat) (hm : m < 2 ^ k) (hn : 2 ^ k * n + m < 65536) : bits .or .i64 ((2 ^ k * n : Nat) : Int) (m : Int) = ((2 ^ k * n + m : Nat) : Int) := by
  have key : (BitVec.ofInt 64 ((2 ^ k * n : Nat) : Int) ||| BitVec.ofInt 64 (m : Int)).toNat = 2 ^ k * n ||| m := by
    rw [BitVec.toNat_or, BitVec.toNat_ofInt, BitVec.toNat_ofInt]
    have e1 : (((2 ^ k * n : Nat) : Int) % ((2 ^ 64 : Nat) : Int)).toNat = 2 ^ k * n := by omega
    have e2 : ((m : Int) % ((2 ^ 64 : Nat) : Int)).toNat = m := by omega
    rw [e1, e2]
  show IntKind.i64.wrap ((BitVec.ofInt 64 ((2 ^ k * n : Nat) : Int) ||| BitVec.ofInt 64 (m : Int)).toNat : Nat) = _
  rw [key, IntKind.wrap_i64, ← Nat.two_pow_add_eq_or_of_lt hm]
  omega
theorem or_8 (m r : Int) (h : 0 ≤ m ∧ m ≤ 7 ∧ 0 ≤ r ∧ r ≤ 7) : bits .or .i64 (m * 8) r = m * 8 + r := by
  obtain ⟨m, rfl⟩ := Int.eq_ofNat_of_zero_le h.1
  obtain ⟨r, rfl⟩ := Int.eq_ofNat_of_zero_le h.2.2.1
  have := bits_or m r 3 (by omega) (by omega)
  rw [show ((2 ^ 3 * m : Nat) : Int) = (m : Int) * 8 by omega, show ((2 ^ 3 * m + r : Nat) : Int) = (m : Int) * 8 + (r : Int) by omega] at this
  exact this
theorem or_64 (m r : Int) (h : 0 ≤ m ∧ m ≤ 63 ∧ 0 ≤ r ∧ r ≤ 63) : bits .or .i64 (m * 64) r = m * 64 + r := by
  obtain ⟨m, rfl⟩ := Int.eq_ofNat_of_zero_le h.1
  obtain ⟨r, rfl⟩ := Int.eq_ofNat_of_zero_le h.2.2.1
  have := bits_or m r 6 (by omega) (by omega)
  rw [show ((2 ^ 6 * m : Nat) : Int) = (m : Int) * 64 by omega, show ((2 ^ 6 * m + r : Nat) : Int) = (m : Int) * 64 + (r : Int) by omega] at this
  exact this
set_option maxHeartbeats 1000000 in
theorem fieldsI_any (o : Od) (h : 0 ≤ o.m ∧ o.m ≤ 7 ∧ 0 ≤ o.r ∧ o.r ≤ 7) (w : World) : Calls Tryd.prog 98 #[o.v] w fun e w' => e = .returned (.int .i64 o.six) ∧ Below w.heap.size w w' := by
  obtain ⟨m, r, x⟩ := o
  unfold Od.v Od.six
  simp only at h ⊢
  have h1 := or_8 m r h
  go_enter Tryd.func98, Tryd.ntmps98
  go_wp2
  go_ret
  exact ⟨rfl, (Below.refl _ _).alloc (Nat.le_refl _) _⟩
end Go.Proofs.YtboedaofbchdkaaDoor

namespace Go.Proofs.YtboedaofbchdkaaDoor
open Go.ChangeShapes Go.WideShapes Go.ChangeAt Go.RowKit
set_option linter.unusedVariables false
set_option maxRecDepth 8000
set_option linter.unusedSimpArgs false
def InOQ (o : Od) : Prop := 0 ≤ o.m ∧ o.m ≤ 7 ∧ 0 ≤ o.r ∧ o.r ≤ 7
theorem six_bdQ {o : Od} (h : InOQ o) : 0 ≤ o.six ∧ o.six ≤ 63 := by unfold InOQ at h; unfold Od.six; omega
theorem putNumber_any (i : Is) (w : World) : Calls Tryd.prog 64 #[i.v] w fun e w' => e = .returned (.int .i64 i.n) ∧ Below w.heap.size w w' := by
  obtain ⟨op, ⟨sm, sr, sx⟩, ⟨dm, dr, dx⟩, n⟩ := i
  unfold Is.v
  simp only
  go_enter Tryd.func64, Tryd.ntmps64
  go_wp2
  go_ret
  exact ⟨rfl, (Below.refl _ _).alloc (Nat.le_refl _) _⟩
theorem putBranch_any (i : Is) (w : World) : Calls Tryd.prog 66 #[i.v] w fun e w' => e = .returned (.int .i64 (i.n % 256)) ∧ Below w.heap.size w w' := by
  obtain ⟨op, ⟨sm, sr, sx⟩, ⟨dm, dr, dx⟩, n⟩ := i
  have h := i64_and255 n
  unfold Is.v
  simp only
  go_enter Tryd.func66, Tryd.ntmps66
  go_wp2
  go_ret
  exact ⟨rfl, (Below.refl _ _).alloc (Nat.le_refl _) _⟩
theorem putOperand_any (i : Is) (hd : InOQ i.d) (w : World) : Calls Tryd.prog 60 #[i.v] w fun e w' => e = .returned (.int .i64 i.d.six) ∧ Below w.heap.size w w' := by
  have FD := hide (fun w => fieldsI_any i.d hd w)
  clear hd
  obtain ⟨op, ⟨sm, sr, sx⟩, ⟨dm, dr, dx⟩, n⟩ := i
  have HS := hide (box_below w (Obj.cells #[.int .i64 op, .int .i64 sm, .int .i64 sr, .int .i64 sx, .int .i64 dm, .int .i64 dr, .int .i64 dx, .int .i64 n] 30))
  have HZ := hide (show w.heap.size + 1 ≤ (w.alloc (Obj.cells #[.int .i64 op, .int .i64 sm, .int .i64 sr, .int .i64 sx, .int .i64 dm, .int .i64 dr, .int .i64 dx, .int .i64 n] 30)).heap.size by simp)
  have ne := Sub.ne (w.heap.size + 1) (w.alloc (Obj.cells #[.int .i64 op, .int .i64 sm, .int .i64 sr, .int .i64 sx, .int .i64 dm, .int .i64 dr, .int .i64 dx, .int .i64 n] 30))
  have c0 : ∀ y : Sub (w.heap.size + 1) (w.alloc (Obj.cells #[.int .i64 op, .int .i64 sm, .int .i64 sr, .int .i64 sx, .int .i64 dm, .int .i64 dr, .int .i64 dx, .int .i64 n] 30)), y.w.cell? ⟨w.heap.size, 0, none⟩ = some (.int .i64 op) := fun y => y.cells 0 _ rfl
  have c1 : ∀ y : Sub (w.heap.size + 1) (w.alloc (Obj.cells #[.int .i64 op, .int .i64 sm, .int .i64 sr, .int .i64 sx, .int .i64 dm, .int .i64 dr, .int .i64 dx, .int .i64 n] 30)), y.w.cell? ⟨w.heap.size, 1, none⟩ = some (.int .i64 sm) := fun y => y.cells 1 _ rfl
  have c2 : ∀ y : Sub (w.heap.size + 1) (w.alloc (Obj.cells #[.int .i64 op, .int .i64 sm, .int .i64 sr, .int .i64 sx, .int .i64 dm, .int .i64 dr, .int .i64 dx, .int .i64 n] 30)), y.w.cell? ⟨w.heap.size, 2, none⟩ = some (.int .i64 sr) := fun y => y.cells 2 _ rfl
  have c3 : ∀ y : Sub (w.heap.size + 1) (w.alloc (Obj.cells #[.int .i64 op, .int .i64 sm, .int .i64 sr, .int .i64 sx, .int .i64 dm, .int .i64 dr, .int .i64 dx, .int .i64 n] 30)), y.w.cell? ⟨w.heap.size, 3, none⟩ = some (.int .i64 sx) := fun y => y.cells 3 _ rfl
  have c4 : ∀ y : Sub (w.heap.size + 1) (w.alloc (Obj.cells #[.int .i64 op, .int .i64 sm, .int .i64 sr, .int .i64 sx, .int .i64 dm, .int .i64 dr, .int .i64 dx, .int .i64 n] 30)), y.w.cell? ⟨w.heap.size, 4, none⟩ = some (.int .i64 dm) := fun y => y.cells 4 _ rfl
  have c5 : ∀ y : Sub (w.heap.size + 1) (w.alloc (Obj.cells #[.int .i64 op, .int .i64 sm, .int .i64 sr, .int .i64 sx, .int .i64 dm, .int .i64 dr, .int .i64 dx, .int .i64 n] 30)), y.w.cell? ⟨w.heap.size, 5, none⟩ = some (.int .i64 dr) := fun y => y.cells 5 _ rfl
  have c6 : ∀ y : Sub (w.heap.size + 1) (w.alloc (Obj.cells #[.int .i64 op, .int .i64 sm, .int .i64 sr, .int .i64 sx, .int .i64 dm, .int .i64 dr, .int .i64 dx, .int .i64 n] 30)), y.w.cell? ⟨w.heap.size, 6, none⟩ = some (.int .i64 dx) := fun y => y.cells 6 _ rfl
  have c7 : ∀ y : Sub (w.heap.size + 1) (w.alloc (Obj.cells #[.int .i64 op, .int .i64 sm, .int .i64 sr, .int .i64 sx, .int .i64 dm, .int .i64 dr, .int .i64 dx, .int .i64 n] 30)), y.w.cell? ⟨w.heap.size, 7, none⟩ = some (.int .i64 n) := fun y => y.cells 7 _ rfl
  simp only at FD ⊢
  generalize Od.six ⟨dm, dr, dx⟩ = qd at FD ⊢
  unfold Od.v at FD
  simp only at FD
  unfold Is.v
  simp only
  go_enter Tryd.func60, Tryd.ntmps60
  go_wp2_with fail
  refine (Sub.call (x := Sub.top w (Obj.cells #[.int .i64 op, .int .i64 sm, .int .i64 sr, .int .i64 sx, .int .i64 dm, .int .i64 dr, .int .i64 dx, .int .i64 n] 30)) (unhide HZ) (unhide FD _)).mono ?_
  rintro e _ ⟨rfl, y0, rfl⟩
  go_wp2
  go_ret
  exact ⟨rfl, unhide HS _ y0.h⟩
set_option maxHeartbeats 1000000 in
theorem putTwo_any (i : Is) (hs : InOQ i.s) (hd : InOQ i.d) (w : World) : Calls Tryd.prog 58 #[i.v] w fun e w' => e = .returned (.int .i64 (i.s.six * 64 + i.d.six)) ∧ Below w.heap.size w w' := by
  have FS := hide (fun w => fieldsI_any i.s hs w)
  have FD := hide (fun w => fieldsI_any i.d hd w)
  have b1 := six_bdQ hs
  have b2 := six_bdQ hd
  have ho := or_64 i.s.six i.d.six ⟨b1.1, b1.2, b2.1, b2.2⟩
  clear hs hd
  obtain ⟨op, ⟨sm, sr, sx⟩, ⟨dm, dr, dx⟩, n⟩ := i
  have HS := hide (box_below w (Obj.cells #[.int .i64 op, .int .i64 sm, .int .i64 sr, .int .i64 sx, .int .i64 dm, .int .i64 dr, .int .i64 dx, .int .i64 n] 30))
  have HZ := hide (show w.heap.size + 1 ≤ (w.alloc (Obj.cells #[.int .i64 op, .int .i64 sm, .int .i64 sr, .int .i64 sx, .int .i64 dm, .int .i64 dr, .int .i64 dx, .int .i64 n] 30)).heap.size by simp)
  have ne := Sub.ne (w.heap.size + 1) (w.alloc (Obj.cells #[.int .i64 op, .int .i64 sm, .int .i64 sr, .int .i64 sx, .int .i64 dm, .int .i64 dr, .int .i64 dx, .int .i64 n] 30))
  have c0 : ∀ y : Sub (w.heap.size + 1) (w.alloc (Obj.cells #[.int .i64 op, .int .i64 sm, .int .i64 sr, .int .i64 sx, .int .i64 dm, .int .i64 dr, .int .i64 dx, .int .i64 n] 30)), y.w.cell? ⟨w.heap.size, 0, none⟩ = some (.int .i64 op) := fun y => y.cells 0 _ rfl
  have c1 : ∀ y : Sub (w.heap.size + 1) (w.alloc (Obj.cells #[.int .i64 op, .int .i64 sm, .int .i64 sr, .int .i64 sx, .int .i64 dm, .int .i64 dr, .int .i64 dx, .int .i64 n] 30)), y.w.cell? ⟨w.heap.size, 1, none⟩ = some (.int .i64 sm) := fun y => y.cells 1 _ rfl
  have c2 : ∀ y : Sub (w.heap.size + 1) (w.alloc (Obj.cells #[.int .i64 op, .int .i64 sm, .int .i64 sr, .int .i64 sx, .int .i64 dm, .int .i64 dr, .int .i64 dx, .int .i64 n] 30)), y.w.cell? ⟨w.heap.size, 2, none⟩ = some (.int .i64 sr) := fun y => y.cells 2 _ rfl
  have c3 : ∀ y : Sub (w.heap.size + 1) (w.alloc (Obj.cells #[.int .i64 op, .int .i64 sm, .int .i64 sr, .int .i64 sx, .int .i64 dm, .int .i64 dr, .int .i64 dx, .int .i64 n] 30)), y.w.cell? ⟨w.heap.size, 3, none⟩ = some (.int .i64 sx) := fun y => y.cells 3 _ rfl
  have c4 : ∀ y : Sub (w.heap.size + 1) (w.alloc (Obj.cells #[.int .i64 op, .int .i64 sm, .int .i64 sr, .int .i64 sx, .int .i64 dm, .int .i64 dr, .int .i64 dx, .int .i64 n] 30)), y.w.cell? ⟨w.heap.size, 4, none⟩ = some (.int .i64 dm) := fun y => y.cells 4 _ rfl
  have c5 : ∀ y : Sub (w.heap.size + 1) (w.alloc (Obj.cells #[.int .i64 op, .int .i64 sm, .int .i64 sr, .int .i64 sx, .int .i64 dm, .int .i64 dr, .int .i64 dx, .int .i64 n] 30)), y.w.cell? ⟨w.heap.size, 5, none⟩ = some (.int .i64 dr) := fun y => y.cells 5 _ rfl
  have c6 : ∀ y : Sub (w.heap.size + 1) (w.alloc (Obj.cells #[.int .i64 op, .int .i64 sm, .int .i64 sr, .int .i64 sx, .int .i64 dm, .int .i64 dr, .int .i64 dx, .int .i64 n] 30)), y.w.cell? ⟨w.heap.size, 6, none⟩ = some (.int .i64 dx) := fun y => y.cells 6 _ rfl
  have c7 : ∀ y : Sub (w.heap.size + 1) (w.alloc (Obj.cells #[.int .i64 op, .int .i64 sm, .int .i64 sr, .int .i64 sx, .int .i64 dm, .int .i64 dr, .int .i64 dx, .int .i64 n] 30)), y.w.cell? ⟨w.heap.size, 7, none⟩ = some (.int .i64 n) := fun y => y.cells 7 _ rfl
  simp only at FS FD ho b1 b2 ⊢
  generalize Od.six ⟨sm, sr, sx⟩ = qs at FS ho b1 ⊢
  generalize Od.six ⟨dm, dr, dx⟩ = qd at FD ho b2 ⊢
  unfold Od.v at FS FD
  simp only at FS FD
  unfold Is.v
  simp only
  go_enter Tryd.func58, Tryd.ntmps58
  go_wp2_with fail
  refine wp_region_sub (Sub.top w (Obj.cells #[.int .i64 op, .int .i64 sm, .int .i64 sr, .int .i64 sx, .int .i64 dm, .int .i64 dr, .int .i64 dx, .int .i64 n] 30)) (by kernel_rfl) (by kernel_rfl) ?_
  repeat (go_big_quiet_step (first | (go_at_call_of 98 sm; exact Sub.call (unhide HZ) (unhide FS _)) | (go_at_call_of 98 dm; exact Sub.call (unhide HZ) (unhide FD _))))
  refine wpQuiet_nil ?_
  intro y
  go_wp2
  go_ret
  exact ⟨rfl, unhide HS _ y.h⟩
set_option maxHeartbeats 1000000 in
theorem putReg_any (i : Is) (hn : 0 ≤ i.n ∧ i.n ≤ 7) (hd : InOQ i.d) (w : World) : Calls Tryd.prog 62 #[i.v] w fun e w' => e = .returned (.int .i64 (i.n * 64 + i.d.six)) ∧ Below w.heap.size w w' := by
  have FS := hide (fun w => putNumber_any i w)
  have FD := hide (fun w => putOperand_any i hd w)
  have b2 := six_bdQ hd
  have ho := or_64 i.n i.d.six ⟨hn.1, by omega, b2.1, b2.2⟩
  clear hd
  obtain ⟨op, ⟨sm, sr, sx⟩, ⟨dm, dr, dx⟩, n⟩ := i
  have HS := hide (box_below w (Obj.cells #[.int .i64 op, .int .i64 sm, .int .i64 sr, .int .i64 sx, .int .i64 dm, .int .i64 dr, .int .i64 dx, .int .i64 n] 30))
  have HZ := hide (show w.heap.size + 1 ≤ (w.alloc (Obj.cells #[.int .i64 op, .int .i64 sm, .int .i64 sr, .int .i64 sx, .int .i64 dm, .int .i64 dr, .int .i64 dx, .int .i64 n] 30)).heap.size by simp)
  have ne := Sub.ne (w.heap.size + 1) (w.alloc (Obj.cells #[.int .i64 op, .int .i64 sm, .int .i64 sr, .int .i64 sx, .int .i64 dm, .int .i64 dr, .int .i64 dx, .int .i64 n] 30))
  have c0 : ∀ y : Sub (w.heap.size + 1) (w.alloc (Obj.cells #[.int .i64 op, .int .i64 sm, .int .i64 sr, .int .i64 sx, .int .i64 dm, .int .i64 dr, .int .i64 dx, .int .i64 n] 30)), y.w.cell? ⟨w.heap.size, 0, none⟩ = some (.int .i64 op) := fun y => y.cells 0 _ rfl
  have c1 : ∀ y : Sub (w.heap.size + 1) (w.alloc (Obj.cells #[.int .i64 op, .int .i64 sm, .int .i64 sr, .int .i64 sx, .int .i64 dm, .int .i64 dr, .int .i64 dx, .int .i64 n] 30)), y.w.cell? ⟨w.heap.size, 1, none⟩ = some (.int .i64 sm) := fun y => y.cells 1 _ rfl
  have c2 : ∀ y : Sub (w.heap.size + 1) (w.alloc (Obj.cells #[.int .i64 op, .int .i64 sm, .int .i64 sr, .int .i64 sx, .int .i64 dm, .int .i64 dr, .int .i64 dx, .int .i64 n] 30)), y.w.cell? ⟨w.heap.size, 2, none⟩ = some (.int .i64 sr) := fun y => y.cells 2 _ rfl
  have c3 : ∀ y : Sub (w.heap.size + 1) (w.alloc (Obj.cells #[.int .i64 op, .int .i64 sm, .int .i64 sr, .int .i64 sx, .int .i64 dm, .int .i64 dr, .int .i64 dx, .int .i64 n] 30)), y.w.cell? ⟨w.heap.size, 3, none⟩ = some (.int .i64 sx) := fun y => y.cells 3 _ rfl
  have c4 : ∀ y : Sub (w.heap.size + 1) (w.alloc (Obj.cells #[.int .i64 op, .int .i64 sm, .int .i64 sr, .int .i64 sx, .int .i64 dm, .int .i64 dr, .int .i64 dx, .int .i64 n] 30)), y.w.cell? ⟨w.heap.size, 4, none⟩ = some (.int .i64 dm) := fun y => y.cells 4 _ rfl
  have c5 : ∀ y : Sub (w.heap.size + 1) (w.alloc (Obj.cells #[.int .i64 op, .int .i64 sm, .int .i64 sr, .int .i64 sx, .int .i64 dm, .int .i64 dr, .int .i64 dx, .int .i64 n] 30)), y.w.cell? ⟨w.heap.size, 5, none⟩ = some (.int .i64 dr) := fun y => y.cells 5 _ rfl
  have c6 : ∀ y : Sub (w.heap.size + 1) (w.alloc (Obj.cells #[.int .i64 op, .int .i64 sm, .int .i64 sr, .int .i64 sx, .int .i64 dm, .int .i64 dr, .int .i64 dx, .int .i64 n] 30)), y.w.cell? ⟨w.heap.size, 6, none⟩ = some (.int .i64 dx) := fun y => y.cells 6 _ rfl
  have c7 : ∀ y : Sub (w.heap.size + 1) (w.alloc (Obj.cells #[.int .i64 op, .int .i64 sm, .int .i64 sr, .int .i64 sx, .int .i64 dm, .int .i64 dr, .int .i64 dx, .int .i64 n] 30)), y.w.cell? ⟨w.heap.size, 7, none⟩ = some (.int .i64 n) := fun y => y.cells 7 _ rfl
  simp only at FS FD ho b2 hn ⊢
  generalize Od.six ⟨dm, dr, dx⟩ = qd at FD ho b2 ⊢
  unfold Is.v at FS FD ⊢
  simp only at FS FD ⊢
  go_enter Tryd.func62, Tryd.ntmps62
  go_wp2_with fail
  refine wp_region_sub (Sub.top w (Obj.cells #[.int .i64 op, .int .i64 sm, .int .i64 sr, .int .i64 sx, .int .i64 dm, .int .i64 dr, .int .i64 dx, .int .i64 n] 30)) (by kernel_rfl) (by kernel_rfl) ?_
  repeat (go_big_quiet_step (first | (go_at_call 64; exact Sub.call (unhide HZ) (unhide FS _)) | (go_at_call 60; exact Sub.call (unhide HZ) (unhide FD _))))
  refine wpQuiet_nil ?_
  intro y
  go_wp2
  go_ret
  exact ⟨rfl, unhide HS _ y.h⟩
end Go.Proofs.YtboedaofbchdkaaDoor

namespace Go.Proofs.YtboedaofbchdkaaDoor
open Go.ChangeShapes Go.WideShapes Go.ChangeAt Go.RowKit
set_option linter.unusedVariables false
set_option maxRecDepth 8000
set_option linter.unusedSimpArgs false
def formsA : Array Value := #[.int .i64 1, .int .i64 6, .int .i64 4096, .func (.func 58) #[] #[], .func (.func 59) #[] #[], .int .i64 7, .int .i64 14, .int .i64 64, .func (.func 60) #[] #[], .func (.func 61) #[] #[], .int .i64 15, .int .i64 15, .int .i64 512, .func (.func 62) #[] #[], .func (.func 63) #[] #[], .int .i64 16, .int .i64 16, .int .i64 8, .func (.func 64) #[] #[], .func (.func 65) #[] #[], .int .i64 17, .int .i64 21, .int .i64 256, .func (.func 66) #[] #[], .func (.func 67) #[] #[], .int .i64 22, .int .i64 22, .int .i64 1, .func (.func 64) #[] #[], .func (.func 65) #[] #[], .int .i64 23, .int .i64 23, .int .i64 256, .func (.func 64) #[] #[], .func (.func 65) #[] #[]]
theorem wpList_store_newQ {P : Program} {ops : Array Oper} {rest : List Oper} {o : Oper} {a : Act} {w : World} {Q : Exit → Act → World → Prop} (hgd : o.guard = none) (ty : TypeId) (x y : Operand) (ho : o.op = .store ty x y)
    (cells : Array Value) (hx : a.eval x = .pointer (some ⟨w.heap.size, 0, none⟩)) (hy : a.eval y = .agg cells) (old : Array Value) (hi : (P.info? ty).map (·.size) = some cells.size)
    (hold : old.size = cells.size) (h1 : cells.all (·.oneCell') = true) (h : wpList P ops Q rest (a.put o.dst undef) (w.alloc (.cells cells ty))) : wpList P ops Q (o :: rest) a (w.alloc (.cells old ty)) :=
  wpList_store_row hgd ty x y ho w.heap.size cells hx hy ty old (heap_alloc_last w _) hi hold h1 (by rw [World.setRow_alloc_new]; exact h)
set_option maxHeartbeats 1000000 in
theorem forms_any (w : World) : Calls Tryd.prog 47 #[] w fun e w' => e = .returned (.agg formsA) ∧ Below w.heap.size w w' := by
  have HG : ∀ o, (w.alloc o).heap[w.heap.size]? = some o := fun o => Array.getElem?_push_size
  have HG' := hide HG
  clear HG
  go_enter Tryd.func47, Tryd.ntmps47
  go_wp2_with (refine wpList_store_newQ rfl 83 _ _ rfl formsA rfl rfl _ (by kernel_rfl) rfl (by kernel_rfl) ?_)
  refine bodyPost_ret (results_cell_row (P := Tryd.prog) rfl _ _ w.heap.size 83 formsA (0, 0) _ rfl (unhide HG' _) Tryd.underlying83 rfl (by kernel_rfl)) rfl ?_
  exact ⟨rfl, (Below.refl _ _).alloc (Nat.le_refl _) _⟩
end Go.Proofs.YtboedaofbchdkaaDoor
