/- Contracts of chapter 3's model (Words) and of the laws' copy of an instruction, over this seat's translation; conditions stand as hypotheses of each. -/
import Derived.Test.YtailpommaeedoaaInsC
namespace Go.Proofs.Ytailpommaeedoaa
open Go.ChangeShapes Go.WideShapes Go.ChangeAt Go.RowKit
set_option linter.unusedVariables false
set_option linter.unusedSimpArgs false

set_option maxHeartbeats 4000000 in
theorem words_any (i : Is) (w : World) : Calls Try.prog 15 #[i.v] w fun e w' => e = .returned (.int .i64 i.words) ∧ Below w.heap.size w w' := by
  obtain ⟨op, ⟨sm, sr, sx⟩, ⟨dm, dr, dx⟩, n⟩ := i
  have HZ := hide (show (w.alloc (Obj.cells #[.int .i64 op, .int .i64 sm, .int .i64 sr, .int .i64 sx, .int .i64 dm, .int .i64 dr, .int .i64 dx, .int .i64 n] 32)).heap.size = w.heap.size + 1 by simp)
  have HCL := hide (box_cells w #[.int .i64 op, .int .i64 sm, .int .i64 sr, .int .i64 sx, .int .i64 dm, .int .i64 dr, .int .i64 dx, .int .i64 n] 32)
  have HB := hide (box_below w (Obj.cells #[.int .i64 op, .int .i64 sm, .int .i64 sr, .int .i64 sx, .int .i64 dm, .int .i64 dr, .int .i64 dx, .int .i64 n] 32))
  unfold Is.v
  simp only
  cases hA : inB op 1 6
  · cases h15 : inB op 1 15
    · have HR := hide (show (1 : Int) = Is.words ⟨op, ⟨sm, sr, sx⟩, ⟨dm, dr, dx⟩, n⟩ by simp [Is.words, *])
      go_enter Try.func15, Try.ntmps15
      go_wp2_with (go_at_call 17; refine (in_any _ _ _ _).mono ?_; rintro e w' ⟨rfl, hw'⟩; rw [hw']; clear hw' w')
      go_ret
      exact ⟨by rw [← unhide HR]; rfl, unhide HB _ (Below.refl _ _)⟩
    · cases hd : Od.hasX ⟨dm, dr, dx⟩
      · have HR := hide (show (1 : Int) = Is.words ⟨op, ⟨sm, sr, sx⟩, ⟨dm, dr, dx⟩, n⟩ by simp [Is.words, *])
        go_enter Try.func15, Try.ntmps15
        go_wp2_with (go_at_call 17; refine (in_any _ _ _ _).mono ?_; rintro e w' ⟨rfl, hw'⟩; rw [hw']; clear hw' w')
        refine (hasX_any ⟨dm, dr, dx⟩ _).mono ?_
        rintro e w1 ⟨rfl, hb1⟩
        rw [unhide HZ] at hb1
        have Bz1 := hb1
        have a0 := unhide HCL w1 Bz1 0 _ rfl
        have a1 := unhide HCL w1 Bz1 1 _ rfl
        have a2 := unhide HCL w1 Bz1 2 _ rfl
        have a3 := unhide HCL w1 Bz1 3 _ rfl
        have a4 := unhide HCL w1 Bz1 4 _ rfl
        have a5 := unhide HCL w1 Bz1 5 _ rfl
        have a6 := unhide HCL w1 Bz1 6 _ rfl
        have a7 := unhide HCL w1 Bz1 7 _ rfl
        rw [hd]
        go_wp2_with (go_at_call 17; refine (in_any _ _ _ _).mono ?_; rintro e w' ⟨rfl, hw'⟩; rw [hw']; clear hw' w')
        go_ret
        exact ⟨by rw [← unhide HR]; rfl, unhide HB _ Bz1⟩
      · have HR := hide (show (2 : Int) = Is.words ⟨op, ⟨sm, sr, sx⟩, ⟨dm, dr, dx⟩, n⟩ by simp [Is.words, *])
        go_enter Try.func15, Try.ntmps15
        go_wp2_with (go_at_call 17; refine (in_any _ _ _ _).mono ?_; rintro e w' ⟨rfl, hw'⟩; rw [hw']; clear hw' w')
        refine (hasX_any ⟨dm, dr, dx⟩ _).mono ?_
        rintro e w1 ⟨rfl, hb1⟩
        rw [unhide HZ] at hb1
        have Bz1 := hb1
        have a0 := unhide HCL w1 Bz1 0 _ rfl
        have a1 := unhide HCL w1 Bz1 1 _ rfl
        have a2 := unhide HCL w1 Bz1 2 _ rfl
        have a3 := unhide HCL w1 Bz1 3 _ rfl
        have a4 := unhide HCL w1 Bz1 4 _ rfl
        have a5 := unhide HCL w1 Bz1 5 _ rfl
        have a6 := unhide HCL w1 Bz1 6 _ rfl
        have a7 := unhide HCL w1 Bz1 7 _ rfl
        rw [hd]
        go_wp2_with (go_at_call 17; refine (in_any _ _ _ _).mono ?_; rintro e w' ⟨rfl, hw'⟩; rw [hw']; clear hw' w')
        go_ret
        exact ⟨by rw [← unhide HR]; rfl, unhide HB _ Bz1⟩
  · cases hs : Od.hasX ⟨sm, sr, sx⟩
    · cases h15 : inB op 1 15
      · have HR := hide (show (1 : Int) = Is.words ⟨op, ⟨sm, sr, sx⟩, ⟨dm, dr, dx⟩, n⟩ by simp [Is.words, *])
        go_enter Try.func15, Try.ntmps15
        go_wp2_with (go_at_call 17; refine (in_any _ _ _ _).mono ?_; rintro e w' ⟨rfl, hw'⟩; rw [hw']; clear hw' w')
        refine (hasX_any ⟨sm, sr, sx⟩ _).mono ?_
        rintro e w1 ⟨rfl, hb1⟩
        rw [unhide HZ] at hb1
        have Bz1 := hb1
        have a0 := unhide HCL w1 Bz1 0 _ rfl
        have a1 := unhide HCL w1 Bz1 1 _ rfl
        have a2 := unhide HCL w1 Bz1 2 _ rfl
        have a3 := unhide HCL w1 Bz1 3 _ rfl
        have a4 := unhide HCL w1 Bz1 4 _ rfl
        have a5 := unhide HCL w1 Bz1 5 _ rfl
        have a6 := unhide HCL w1 Bz1 6 _ rfl
        have a7 := unhide HCL w1 Bz1 7 _ rfl
        rw [hs]
        clear hb1
        go_wp2_with (go_at_call 17; refine (in_any _ _ _ _).mono ?_; rintro e w' ⟨rfl, hw'⟩; rw [hw']; clear hw' w')
        go_ret
        exact ⟨by rw [← unhide HR]; rfl, unhide HB _ Bz1⟩
      · cases hd : Od.hasX ⟨dm, dr, dx⟩
        · have HR := hide (show (1 : Int) = Is.words ⟨op, ⟨sm, sr, sx⟩, ⟨dm, dr, dx⟩, n⟩ by simp [Is.words, *])
          go_enter Try.func15, Try.ntmps15
          go_wp2_with (go_at_call 17; refine (in_any _ _ _ _).mono ?_; rintro e w' ⟨rfl, hw'⟩; rw [hw']; clear hw' w')
          refine (hasX_any ⟨sm, sr, sx⟩ _).mono ?_
          rintro e w1 ⟨rfl, hb1⟩
          rw [unhide HZ] at hb1
          have Bz1 := hb1
          have a0 := unhide HCL w1 Bz1 0 _ rfl
          have a1 := unhide HCL w1 Bz1 1 _ rfl
          have a2 := unhide HCL w1 Bz1 2 _ rfl
          have a3 := unhide HCL w1 Bz1 3 _ rfl
          have a4 := unhide HCL w1 Bz1 4 _ rfl
          have a5 := unhide HCL w1 Bz1 5 _ rfl
          have a6 := unhide HCL w1 Bz1 6 _ rfl
          have a7 := unhide HCL w1 Bz1 7 _ rfl
          rw [hs]
          clear hb1
          go_wp2_with (go_at_call 17; refine (in_any _ _ _ _).mono ?_; rintro e w' ⟨rfl, hw'⟩; rw [hw']; clear hw' w')
          refine (hasX_any ⟨dm, dr, dx⟩ _).mono ?_
          rintro e w2 ⟨rfl, hb2⟩
          have Bz2 := Bz1.trans (hb2.mono (by have := Bz1.size; rw [unhide HZ] at this; exact this))
          have a0 := unhide HCL w2 Bz2 0 _ rfl
          have a1 := unhide HCL w2 Bz2 1 _ rfl
          have a2 := unhide HCL w2 Bz2 2 _ rfl
          have a3 := unhide HCL w2 Bz2 3 _ rfl
          have a4 := unhide HCL w2 Bz2 4 _ rfl
          have a5 := unhide HCL w2 Bz2 5 _ rfl
          have a6 := unhide HCL w2 Bz2 6 _ rfl
          have a7 := unhide HCL w2 Bz2 7 _ rfl
          rw [hd]
          go_wp2_with (go_at_call 17; refine (in_any _ _ _ _).mono ?_; rintro e w' ⟨rfl, hw'⟩; rw [hw']; clear hw' w')
          go_ret
          exact ⟨by rw [← unhide HR]; rfl, unhide HB _ Bz2⟩
        · have HR := hide (show (2 : Int) = Is.words ⟨op, ⟨sm, sr, sx⟩, ⟨dm, dr, dx⟩, n⟩ by simp [Is.words, *])
          go_enter Try.func15, Try.ntmps15
          go_wp2_with (go_at_call 17; refine (in_any _ _ _ _).mono ?_; rintro e w' ⟨rfl, hw'⟩; rw [hw']; clear hw' w')
          refine (hasX_any ⟨sm, sr, sx⟩ _).mono ?_
          rintro e w1 ⟨rfl, hb1⟩
          rw [unhide HZ] at hb1
          have Bz1 := hb1
          have a0 := unhide HCL w1 Bz1 0 _ rfl
          have a1 := unhide HCL w1 Bz1 1 _ rfl
          have a2 := unhide HCL w1 Bz1 2 _ rfl
          have a3 := unhide HCL w1 Bz1 3 _ rfl
          have a4 := unhide HCL w1 Bz1 4 _ rfl
          have a5 := unhide HCL w1 Bz1 5 _ rfl
          have a6 := unhide HCL w1 Bz1 6 _ rfl
          have a7 := unhide HCL w1 Bz1 7 _ rfl
          rw [hs]
          clear hb1
          go_wp2_with (go_at_call 17; refine (in_any _ _ _ _).mono ?_; rintro e w' ⟨rfl, hw'⟩; rw [hw']; clear hw' w')
          refine (hasX_any ⟨dm, dr, dx⟩ _).mono ?_
          rintro e w2 ⟨rfl, hb2⟩
          have Bz2 := Bz1.trans (hb2.mono (by have := Bz1.size; rw [unhide HZ] at this; exact this))
          have a0 := unhide HCL w2 Bz2 0 _ rfl
          have a1 := unhide HCL w2 Bz2 1 _ rfl
          have a2 := unhide HCL w2 Bz2 2 _ rfl
          have a3 := unhide HCL w2 Bz2 3 _ rfl
          have a4 := unhide HCL w2 Bz2 4 _ rfl
          have a5 := unhide HCL w2 Bz2 5 _ rfl
          have a6 := unhide HCL w2 Bz2 6 _ rfl
          have a7 := unhide HCL w2 Bz2 7 _ rfl
          rw [hd]
          go_wp2_with (go_at_call 17; refine (in_any _ _ _ _).mono ?_; rintro e w' ⟨rfl, hw'⟩; rw [hw']; clear hw' w')
          go_ret
          exact ⟨by rw [← unhide HR]; rfl, unhide HB _ Bz2⟩
    · cases h15 : inB op 1 15
      · have HR := hide (show (2 : Int) = Is.words ⟨op, ⟨sm, sr, sx⟩, ⟨dm, dr, dx⟩, n⟩ by simp [Is.words, *])
        go_enter Try.func15, Try.ntmps15
        go_wp2_with (go_at_call 17; refine (in_any _ _ _ _).mono ?_; rintro e w' ⟨rfl, hw'⟩; rw [hw']; clear hw' w')
        refine (hasX_any ⟨sm, sr, sx⟩ _).mono ?_
        rintro e w1 ⟨rfl, hb1⟩
        rw [unhide HZ] at hb1
        have Bz1 := hb1
        have a0 := unhide HCL w1 Bz1 0 _ rfl
        have a1 := unhide HCL w1 Bz1 1 _ rfl
        have a2 := unhide HCL w1 Bz1 2 _ rfl
        have a3 := unhide HCL w1 Bz1 3 _ rfl
        have a4 := unhide HCL w1 Bz1 4 _ rfl
        have a5 := unhide HCL w1 Bz1 5 _ rfl
        have a6 := unhide HCL w1 Bz1 6 _ rfl
        have a7 := unhide HCL w1 Bz1 7 _ rfl
        rw [hs]
        clear hb1
        go_wp2_with (go_at_call 17; refine (in_any _ _ _ _).mono ?_; rintro e w' ⟨rfl, hw'⟩; rw [hw']; clear hw' w')
        go_ret
        exact ⟨by rw [← unhide HR]; rfl, unhide HB _ Bz1⟩
      · cases hd : Od.hasX ⟨dm, dr, dx⟩
        · have HR := hide (show (2 : Int) = Is.words ⟨op, ⟨sm, sr, sx⟩, ⟨dm, dr, dx⟩, n⟩ by simp [Is.words, *])
          go_enter Try.func15, Try.ntmps15
          go_wp2_with (go_at_call 17; refine (in_any _ _ _ _).mono ?_; rintro e w' ⟨rfl, hw'⟩; rw [hw']; clear hw' w')
          refine (hasX_any ⟨sm, sr, sx⟩ _).mono ?_
          rintro e w1 ⟨rfl, hb1⟩
          rw [unhide HZ] at hb1
          have Bz1 := hb1
          have a0 := unhide HCL w1 Bz1 0 _ rfl
          have a1 := unhide HCL w1 Bz1 1 _ rfl
          have a2 := unhide HCL w1 Bz1 2 _ rfl
          have a3 := unhide HCL w1 Bz1 3 _ rfl
          have a4 := unhide HCL w1 Bz1 4 _ rfl
          have a5 := unhide HCL w1 Bz1 5 _ rfl
          have a6 := unhide HCL w1 Bz1 6 _ rfl
          have a7 := unhide HCL w1 Bz1 7 _ rfl
          rw [hs]
          clear hb1
          go_wp2_with (go_at_call 17; refine (in_any _ _ _ _).mono ?_; rintro e w' ⟨rfl, hw'⟩; rw [hw']; clear hw' w')
          refine (hasX_any ⟨dm, dr, dx⟩ _).mono ?_
          rintro e w2 ⟨rfl, hb2⟩
          have Bz2 := Bz1.trans (hb2.mono (by have := Bz1.size; rw [unhide HZ] at this; exact this))
          have a0 := unhide HCL w2 Bz2 0 _ rfl
          have a1 := unhide HCL w2 Bz2 1 _ rfl
          have a2 := unhide HCL w2 Bz2 2 _ rfl
          have a3 := unhide HCL w2 Bz2 3 _ rfl
          have a4 := unhide HCL w2 Bz2 4 _ rfl
          have a5 := unhide HCL w2 Bz2 5 _ rfl
          have a6 := unhide HCL w2 Bz2 6 _ rfl
          have a7 := unhide HCL w2 Bz2 7 _ rfl
          rw [hd]
          go_wp2_with (go_at_call 17; refine (in_any _ _ _ _).mono ?_; rintro e w' ⟨rfl, hw'⟩; rw [hw']; clear hw' w')
          go_ret
          exact ⟨by rw [← unhide HR]; rfl, unhide HB _ Bz2⟩
        · have HR := hide (show (3 : Int) = Is.words ⟨op, ⟨sm, sr, sx⟩, ⟨dm, dr, dx⟩, n⟩ by simp [Is.words, *])
          go_enter Try.func15, Try.ntmps15
          go_wp2_with (go_at_call 17; refine (in_any _ _ _ _).mono ?_; rintro e w' ⟨rfl, hw'⟩; rw [hw']; clear hw' w')
          refine (hasX_any ⟨sm, sr, sx⟩ _).mono ?_
          rintro e w1 ⟨rfl, hb1⟩
          rw [unhide HZ] at hb1
          have Bz1 := hb1
          have a0 := unhide HCL w1 Bz1 0 _ rfl
          have a1 := unhide HCL w1 Bz1 1 _ rfl
          have a2 := unhide HCL w1 Bz1 2 _ rfl
          have a3 := unhide HCL w1 Bz1 3 _ rfl
          have a4 := unhide HCL w1 Bz1 4 _ rfl
          have a5 := unhide HCL w1 Bz1 5 _ rfl
          have a6 := unhide HCL w1 Bz1 6 _ rfl
          have a7 := unhide HCL w1 Bz1 7 _ rfl
          rw [hs]
          clear hb1
          go_wp2_with (go_at_call 17; refine (in_any _ _ _ _).mono ?_; rintro e w' ⟨rfl, hw'⟩; rw [hw']; clear hw' w')
          refine (hasX_any ⟨dm, dr, dx⟩ _).mono ?_
          rintro e w2 ⟨rfl, hb2⟩
          have Bz2 := Bz1.trans (hb2.mono (by have := Bz1.size; rw [unhide HZ] at this; exact this))
          have a0 := unhide HCL w2 Bz2 0 _ rfl
          have a1 := unhide HCL w2 Bz2 1 _ rfl
          have a2 := unhide HCL w2 Bz2 2 _ rfl
          have a3 := unhide HCL w2 Bz2 3 _ rfl
          have a4 := unhide HCL w2 Bz2 4 _ rfl
          have a5 := unhide HCL w2 Bz2 5 _ rfl
          have a6 := unhide HCL w2 Bz2 6 _ rfl
          have a7 := unhide HCL w2 Bz2 7 _ rfl
          rw [hd]
          go_wp2_with (go_at_call 17; refine (in_any _ _ _ _).mono ?_; rintro e w' ⟨rfl, hw'⟩; rw [hw']; clear hw' w')
          go_ret
          exact ⟨by rw [← unhide HR]; rfl, unhide HB _ Bz2⟩
end Go.Proofs.Ytailpommaeedoaa
