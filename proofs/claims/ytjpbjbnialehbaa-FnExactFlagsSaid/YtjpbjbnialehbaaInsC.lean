/- Contracts of chapter 3's model (InsOk), over this seat's translation; conditions stand as hypotheses of each. -/
import Derived.Test.YtjpbjbnialehbaaInsB
namespace Go.Proofs.Ytjpbjbnialehbaa
open Go.ChangeShapes Go.WideShapes Go.ChangeAt Go.RowKit
set_option linter.unusedVariables false
set_option maxRecDepth 8000
set_option linter.unusedSimpArgs false

theorem box_cells (w : World) (cs : Array Value) (t : TypeId) : ∀ w', Below (w.heap.size + 1) (w.alloc (Obj.cells cs t)) w' → ∀ j v, cs[j]? = some v → w'.cell? ⟨w.heap.size, j, none⟩ = some v := fun w' hb j v hv =>
  (hb.cell (p := ⟨w.heap.size, j, none⟩) (by simp)).trans (by rw [World.cell?_alloc_at _ _ _ _ rfl]; exact hv)
theorem box_below (w : World) (o : Obj) : ∀ w', Below (w.heap.size + 1) (w.alloc o) w' → Below w.heap.size w w' := fun w' hb =>
  ((Below.refl _ _).alloc (Nat.le_refl _) _).trans (hb.mono (by omega))

set_option maxHeartbeats 4000000 in
theorem insOk_any (i : Is) (w : World) : Calls Try.prog 71 #[i.v] w fun e w' => e = .returned (.bool i.ok) ∧ Below w.heap.size w w' := by
  obtain ⟨op, ⟨sm, sr, sx⟩, ⟨dm, dr, dx⟩, n⟩ := i
  have HZ := hide (show (w.alloc (Obj.cells #[.int .i64 op, .int .i64 sm, .int .i64 sr, .int .i64 sx, .int .i64 dm, .int .i64 dr, .int .i64 dx, .int .i64 n] 95)).heap.size = w.heap.size + 1 by simp)
  have HCL := hide (box_cells w #[.int .i64 op, .int .i64 sm, .int .i64 sr, .int .i64 sx, .int .i64 dm, .int .i64 dr, .int .i64 dx, .int .i64 n] 95)
  have HB := hide (box_below w (Obj.cells #[.int .i64 op, .int .i64 sm, .int .i64 sr, .int .i64 sx, .int .i64 dm, .int .i64 dr, .int .i64 dx, .int .i64 n] 95))
  unfold Is.v
  simp only
  cases hA : inB op 1 6
  · cases hB1 : inB op 7 14
    · cases hC : (op == 15)
      · cases hz1 : Od.zero ⟨sm, sr, sx⟩
        · have HR := hide (show false = Is.ok ⟨op, ⟨sm, sr, sx⟩, ⟨dm, dr, dx⟩, n⟩ by simp [Is.ok, *])
          go_enter Try.func71, Try.ntmps71
          go_wp2_with (go_at_call 46; refine (in_any _ _ _ _).mono ?_; rintro e w' ⟨rfl, hw'⟩; rw [hw']; clear hw' w')
          refine (zero_any ⟨sm, sr, sx⟩ _).mono ?_
          rintro e w1 ⟨rfl, hb1⟩
          rw [unhide HZ] at hb1
          have Bz1 := hb1
          have a0 := unhide HCL w1 Bz1 0 _ rfl
          have a1 := unhide HCL w1 Bz1 1 _ rfl
          have a2 := unhide HCL w1 Bz1 2 _ rfl
          have a3 := unhide HCL w1 Bz1 3 _ rfl
          have a4 := unhide HCL w1 Bz1 4 _ rfl
          have a5 := unhide HCL w1 Bz1 5 _ rfl
          have a6 := unhide HCL w1 Bz1 6 _ rfl
          have a7 := unhide HCL w1 Bz1 7 _ rfl
          rw [hz1]
          go_wp2_with (go_at_call 46; refine (in_any _ _ _ _).mono ?_; rintro e w' ⟨rfl, hw'⟩; rw [hw']; clear hw' w')
          go_ret
          exact ⟨by rw [← unhide HR]; rfl, unhide HB _ Bz1⟩
        · cases hz2 : Od.zero ⟨dm, dr, dx⟩
          · have HR := hide (show false = Is.ok ⟨op, ⟨sm, sr, sx⟩, ⟨dm, dr, dx⟩, n⟩ by simp [Is.ok, *])
            go_enter Try.func71, Try.ntmps71
            go_wp2_with (go_at_call 46; refine (in_any _ _ _ _).mono ?_; rintro e w' ⟨rfl, hw'⟩; rw [hw']; clear hw' w')
            refine (zero_any ⟨sm, sr, sx⟩ _).mono ?_
            rintro e w1 ⟨rfl, hb1⟩
            rw [unhide HZ] at hb1
            have Bz1 := hb1
            have a0 := unhide HCL w1 Bz1 0 _ rfl
            have a1 := unhide HCL w1 Bz1 1 _ rfl
            have a2 := unhide HCL w1 Bz1 2 _ rfl
            have a3 := unhide HCL w1 Bz1 3 _ rfl
            have a4 := unhide HCL w1 Bz1 4 _ rfl
            have a5 := unhide HCL w1 Bz1 5 _ rfl
            have a6 := unhide HCL w1 Bz1 6 _ rfl
            have a7 := unhide HCL w1 Bz1 7 _ rfl
            rw [hz1]
            clear hb1
            go_wp2_with (go_at_call 46; refine (in_any _ _ _ _).mono ?_; rintro e w' ⟨rfl, hw'⟩; rw [hw']; clear hw' w')
            refine (zero_any ⟨dm, dr, dx⟩ _).mono ?_
            rintro e w2 ⟨rfl, hb2⟩
            have Bz2 := Bz1.trans (hb2.mono (by have := Bz1.size; rw [unhide HZ] at this; exact this))
            have a0 := unhide HCL w2 Bz2 0 _ rfl
            have a1 := unhide HCL w2 Bz2 1 _ rfl
            have a2 := unhide HCL w2 Bz2 2 _ rfl
            have a3 := unhide HCL w2 Bz2 3 _ rfl
            have a4 := unhide HCL w2 Bz2 4 _ rfl
            have a5 := unhide HCL w2 Bz2 5 _ rfl
            have a6 := unhide HCL w2 Bz2 6 _ rfl
            have a7 := unhide HCL w2 Bz2 7 _ rfl
            rw [hz2]
            go_wp2_with (go_at_call 46; refine (in_any _ _ _ _).mono ?_; rintro e w' ⟨rfl, hw'⟩; rw [hw']; clear hw' w')
            go_ret
            exact ⟨by rw [← unhide HR]; rfl, unhide HB _ Bz2⟩
          · cases h16 : (op == 16)
            · cases h17 : inB op 17 21
              · cases h22 : (op == 22)
                · cases h23 : (op == 23)
                  · have HR := hide (show false = Is.ok ⟨op, ⟨sm, sr, sx⟩, ⟨dm, dr, dx⟩, n⟩ by simp [Is.ok, *])
                    go_enter Try.func71, Try.ntmps71
                    go_wp2_with (go_at_call 46; refine (in_any _ _ _ _).mono ?_; rintro e w' ⟨rfl, hw'⟩; rw [hw']; clear hw' w')
                    refine (zero_any ⟨sm, sr, sx⟩ _).mono ?_
                    rintro e w1 ⟨rfl, hb1⟩
                    rw [unhide HZ] at hb1
                    have Bz1 := hb1
                    have a0 := unhide HCL w1 Bz1 0 _ rfl
                    have a1 := unhide HCL w1 Bz1 1 _ rfl
                    have a2 := unhide HCL w1 Bz1 2 _ rfl
                    have a3 := unhide HCL w1 Bz1 3 _ rfl
                    have a4 := unhide HCL w1 Bz1 4 _ rfl
                    have a5 := unhide HCL w1 Bz1 5 _ rfl
                    have a6 := unhide HCL w1 Bz1 6 _ rfl
                    have a7 := unhide HCL w1 Bz1 7 _ rfl
                    rw [hz1]
                    clear hb1
                    go_wp2_with (go_at_call 46; refine (in_any _ _ _ _).mono ?_; rintro e w' ⟨rfl, hw'⟩; rw [hw']; clear hw' w')
                    refine (zero_any ⟨dm, dr, dx⟩ _).mono ?_
                    rintro e w2 ⟨rfl, hb2⟩
                    have Bz2 := Bz1.trans (hb2.mono (by have := Bz1.size; rw [unhide HZ] at this; exact this))
                    have a0 := unhide HCL w2 Bz2 0 _ rfl
                    have a1 := unhide HCL w2 Bz2 1 _ rfl
                    have a2 := unhide HCL w2 Bz2 2 _ rfl
                    have a3 := unhide HCL w2 Bz2 3 _ rfl
                    have a4 := unhide HCL w2 Bz2 4 _ rfl
                    have a5 := unhide HCL w2 Bz2 5 _ rfl
                    have a6 := unhide HCL w2 Bz2 6 _ rfl
                    have a7 := unhide HCL w2 Bz2 7 _ rfl
                    rw [hz2]
                    go_wp2_with (go_at_call 46; refine (in_any _ _ _ _).mono ?_; rintro e w' ⟨rfl, hw'⟩; rw [hw']; clear hw' w')
                    go_ret
                    exact ⟨by rw [← unhide HR]; rfl, unhide HB _ Bz2⟩
                  · have HR := hide (show inB n 0 255 = Is.ok ⟨op, ⟨sm, sr, sx⟩, ⟨dm, dr, dx⟩, n⟩ by simp [Is.ok, *])
                    go_enter Try.func71, Try.ntmps71
                    go_wp2_with (go_at_call 46; refine (in_any _ _ _ _).mono ?_; rintro e w' ⟨rfl, hw'⟩; rw [hw']; clear hw' w')
                    refine (zero_any ⟨sm, sr, sx⟩ _).mono ?_
                    rintro e w1 ⟨rfl, hb1⟩
                    rw [unhide HZ] at hb1
                    have Bz1 := hb1
                    have a0 := unhide HCL w1 Bz1 0 _ rfl
                    have a1 := unhide HCL w1 Bz1 1 _ rfl
                    have a2 := unhide HCL w1 Bz1 2 _ rfl
                    have a3 := unhide HCL w1 Bz1 3 _ rfl
                    have a4 := unhide HCL w1 Bz1 4 _ rfl
                    have a5 := unhide HCL w1 Bz1 5 _ rfl
                    have a6 := unhide HCL w1 Bz1 6 _ rfl
                    have a7 := unhide HCL w1 Bz1 7 _ rfl
                    rw [hz1]
                    clear hb1
                    go_wp2_with (go_at_call 46; refine (in_any _ _ _ _).mono ?_; rintro e w' ⟨rfl, hw'⟩; rw [hw']; clear hw' w')
                    refine (zero_any ⟨dm, dr, dx⟩ _).mono ?_
                    rintro e w2 ⟨rfl, hb2⟩
                    have Bz2 := Bz1.trans (hb2.mono (by have := Bz1.size; rw [unhide HZ] at this; exact this))
                    have a0 := unhide HCL w2 Bz2 0 _ rfl
                    have a1 := unhide HCL w2 Bz2 1 _ rfl
                    have a2 := unhide HCL w2 Bz2 2 _ rfl
                    have a3 := unhide HCL w2 Bz2 3 _ rfl
                    have a4 := unhide HCL w2 Bz2 4 _ rfl
                    have a5 := unhide HCL w2 Bz2 5 _ rfl
                    have a6 := unhide HCL w2 Bz2 6 _ rfl
                    have a7 := unhide HCL w2 Bz2 7 _ rfl
                    rw [hz2]
                    go_wp2_with (go_at_call 46; refine (in_any _ _ _ _).mono ?_; rintro e w' ⟨rfl, hw'⟩; rw [hw']; clear hw' w')
                    go_ret
                    exact ⟨by rw [← unhide HR]; rfl, unhide HB _ Bz2⟩
                · have HR := hide (show (n == 0) = Is.ok ⟨op, ⟨sm, sr, sx⟩, ⟨dm, dr, dx⟩, n⟩ by simp [Is.ok, *])
                  go_enter Try.func71, Try.ntmps71
                  go_wp2_with (go_at_call 46; refine (in_any _ _ _ _).mono ?_; rintro e w' ⟨rfl, hw'⟩; rw [hw']; clear hw' w')
                  refine (zero_any ⟨sm, sr, sx⟩ _).mono ?_
                  rintro e w1 ⟨rfl, hb1⟩
                  rw [unhide HZ] at hb1
                  have Bz1 := hb1
                  have a0 := unhide HCL w1 Bz1 0 _ rfl
                  have a1 := unhide HCL w1 Bz1 1 _ rfl
                  have a2 := unhide HCL w1 Bz1 2 _ rfl
                  have a3 := unhide HCL w1 Bz1 3 _ rfl
                  have a4 := unhide HCL w1 Bz1 4 _ rfl
                  have a5 := unhide HCL w1 Bz1 5 _ rfl
                  have a6 := unhide HCL w1 Bz1 6 _ rfl
                  have a7 := unhide HCL w1 Bz1 7 _ rfl
                  rw [hz1]
                  clear hb1
                  go_wp2_with (go_at_call 46; refine (in_any _ _ _ _).mono ?_; rintro e w' ⟨rfl, hw'⟩; rw [hw']; clear hw' w')
                  refine (zero_any ⟨dm, dr, dx⟩ _).mono ?_
                  rintro e w2 ⟨rfl, hb2⟩
                  have Bz2 := Bz1.trans (hb2.mono (by have := Bz1.size; rw [unhide HZ] at this; exact this))
                  have a0 := unhide HCL w2 Bz2 0 _ rfl
                  have a1 := unhide HCL w2 Bz2 1 _ rfl
                  have a2 := unhide HCL w2 Bz2 2 _ rfl
                  have a3 := unhide HCL w2 Bz2 3 _ rfl
                  have a4 := unhide HCL w2 Bz2 4 _ rfl
                  have a5 := unhide HCL w2 Bz2 5 _ rfl
                  have a6 := unhide HCL w2 Bz2 6 _ rfl
                  have a7 := unhide HCL w2 Bz2 7 _ rfl
                  rw [hz2]
                  go_wp2_with (go_at_call 46; refine (in_any _ _ _ _).mono ?_; rintro e w' ⟨rfl, hw'⟩; rw [hw']; clear hw' w')
                  go_ret
                  exact ⟨by rw [← unhide HR]; rfl, unhide HB _ Bz2⟩
              · have HR := hide (show inB n (-128) 127 = Is.ok ⟨op, ⟨sm, sr, sx⟩, ⟨dm, dr, dx⟩, n⟩ by simp [Is.ok, *])
                go_enter Try.func71, Try.ntmps71
                go_wp2_with (go_at_call 46; refine (in_any _ _ _ _).mono ?_; rintro e w' ⟨rfl, hw'⟩; rw [hw']; clear hw' w')
                refine (zero_any ⟨sm, sr, sx⟩ _).mono ?_
                rintro e w1 ⟨rfl, hb1⟩
                rw [unhide HZ] at hb1
                have Bz1 := hb1
                have a0 := unhide HCL w1 Bz1 0 _ rfl
                have a1 := unhide HCL w1 Bz1 1 _ rfl
                have a2 := unhide HCL w1 Bz1 2 _ rfl
                have a3 := unhide HCL w1 Bz1 3 _ rfl
                have a4 := unhide HCL w1 Bz1 4 _ rfl
                have a5 := unhide HCL w1 Bz1 5 _ rfl
                have a6 := unhide HCL w1 Bz1 6 _ rfl
                have a7 := unhide HCL w1 Bz1 7 _ rfl
                rw [hz1]
                clear hb1
                go_wp2_with (go_at_call 46; refine (in_any _ _ _ _).mono ?_; rintro e w' ⟨rfl, hw'⟩; rw [hw']; clear hw' w')
                refine (zero_any ⟨dm, dr, dx⟩ _).mono ?_
                rintro e w2 ⟨rfl, hb2⟩
                have Bz2 := Bz1.trans (hb2.mono (by have := Bz1.size; rw [unhide HZ] at this; exact this))
                have a0 := unhide HCL w2 Bz2 0 _ rfl
                have a1 := unhide HCL w2 Bz2 1 _ rfl
                have a2 := unhide HCL w2 Bz2 2 _ rfl
                have a3 := unhide HCL w2 Bz2 3 _ rfl
                have a4 := unhide HCL w2 Bz2 4 _ rfl
                have a5 := unhide HCL w2 Bz2 5 _ rfl
                have a6 := unhide HCL w2 Bz2 6 _ rfl
                have a7 := unhide HCL w2 Bz2 7 _ rfl
                rw [hz2]
                go_wp2_with (go_at_call 46; refine (in_any _ _ _ _).mono ?_; rintro e w' ⟨rfl, hw'⟩; rw [hw']; clear hw' w')
                go_ret
                exact ⟨by rw [← unhide HR]; rfl, unhide HB _ Bz2⟩
            · have HR := hide (show inB n 0 7 = Is.ok ⟨op, ⟨sm, sr, sx⟩, ⟨dm, dr, dx⟩, n⟩ by simp [Is.ok, *])
              go_enter Try.func71, Try.ntmps71
              go_wp2_with (go_at_call 46; refine (in_any _ _ _ _).mono ?_; rintro e w' ⟨rfl, hw'⟩; rw [hw']; clear hw' w')
              refine (zero_any ⟨sm, sr, sx⟩ _).mono ?_
              rintro e w1 ⟨rfl, hb1⟩
              rw [unhide HZ] at hb1
              have Bz1 := hb1
              have a0 := unhide HCL w1 Bz1 0 _ rfl
              have a1 := unhide HCL w1 Bz1 1 _ rfl
              have a2 := unhide HCL w1 Bz1 2 _ rfl
              have a3 := unhide HCL w1 Bz1 3 _ rfl
              have a4 := unhide HCL w1 Bz1 4 _ rfl
              have a5 := unhide HCL w1 Bz1 5 _ rfl
              have a6 := unhide HCL w1 Bz1 6 _ rfl
              have a7 := unhide HCL w1 Bz1 7 _ rfl
              rw [hz1]
              clear hb1
              go_wp2_with (go_at_call 46; refine (in_any _ _ _ _).mono ?_; rintro e w' ⟨rfl, hw'⟩; rw [hw']; clear hw' w')
              refine (zero_any ⟨dm, dr, dx⟩ _).mono ?_
              rintro e w2 ⟨rfl, hb2⟩
              have Bz2 := Bz1.trans (hb2.mono (by have := Bz1.size; rw [unhide HZ] at this; exact this))
              have a0 := unhide HCL w2 Bz2 0 _ rfl
              have a1 := unhide HCL w2 Bz2 1 _ rfl
              have a2 := unhide HCL w2 Bz2 2 _ rfl
              have a3 := unhide HCL w2 Bz2 3 _ rfl
              have a4 := unhide HCL w2 Bz2 4 _ rfl
              have a5 := unhide HCL w2 Bz2 5 _ rfl
              have a6 := unhide HCL w2 Bz2 6 _ rfl
              have a7 := unhide HCL w2 Bz2 7 _ rfl
              rw [hz2]
              go_wp2_with (go_at_call 46; refine (in_any _ _ _ _).mono ?_; rintro e w' ⟨rfl, hw'⟩; rw [hw']; clear hw' w')
              go_ret
              exact ⟨by rw [← unhide HR]; rfl, unhide HB _ Bz2⟩
      · cases hs : Od.zero ⟨sm, sr, sx⟩
        · have HR := hide (show false = Is.ok ⟨op, ⟨sm, sr, sx⟩, ⟨dm, dr, dx⟩, n⟩ by simp [Is.ok, *])
          go_enter Try.func71, Try.ntmps71
          go_wp2_with (go_at_call 46; refine (in_any _ _ _ _).mono ?_; rintro e w' ⟨rfl, hw'⟩; rw [hw']; clear hw' w')
          refine (zero_any ⟨sm, sr, sx⟩ _).mono ?_
          rintro e w1 ⟨rfl, hb1⟩
          rw [unhide HZ] at hb1
          have Bz1 := hb1
          have a0 := unhide HCL w1 Bz1 0 _ rfl
          have a1 := unhide HCL w1 Bz1 1 _ rfl
          have a2 := unhide HCL w1 Bz1 2 _ rfl
          have a3 := unhide HCL w1 Bz1 3 _ rfl
          have a4 := unhide HCL w1 Bz1 4 _ rfl
          have a5 := unhide HCL w1 Bz1 5 _ rfl
          have a6 := unhide HCL w1 Bz1 6 _ rfl
          have a7 := unhide HCL w1 Bz1 7 _ rfl
          rw [hs]
          go_wp2_with (go_at_call 46; refine (in_any _ _ _ _).mono ?_; rintro e w' ⟨rfl, hw'⟩; rw [hw']; clear hw' w')
          go_ret
          exact ⟨by rw [← unhide HR]; rfl, unhide HB _ Bz1⟩
        · cases hd : Od.ok ⟨dm, dr, dx⟩
          · have HR := hide (show false = Is.ok ⟨op, ⟨sm, sr, sx⟩, ⟨dm, dr, dx⟩, n⟩ by simp [Is.ok, *])
            go_enter Try.func71, Try.ntmps71
            go_wp2_with (go_at_call 46; refine (in_any _ _ _ _).mono ?_; rintro e w' ⟨rfl, hw'⟩; rw [hw']; clear hw' w')
            refine (zero_any ⟨sm, sr, sx⟩ _).mono ?_
            rintro e w1 ⟨rfl, hb1⟩
            rw [unhide HZ] at hb1
            have Bz1 := hb1
            have a0 := unhide HCL w1 Bz1 0 _ rfl
            have a1 := unhide HCL w1 Bz1 1 _ rfl
            have a2 := unhide HCL w1 Bz1 2 _ rfl
            have a3 := unhide HCL w1 Bz1 3 _ rfl
            have a4 := unhide HCL w1 Bz1 4 _ rfl
            have a5 := unhide HCL w1 Bz1 5 _ rfl
            have a6 := unhide HCL w1 Bz1 6 _ rfl
            have a7 := unhide HCL w1 Bz1 7 _ rfl
            rw [hs]
            clear hb1
            go_wp2_with (go_at_call 46; refine (in_any _ _ _ _).mono ?_; rintro e w' ⟨rfl, hw'⟩; rw [hw']; clear hw' w')
            refine (opdOk_any ⟨dm, dr, dx⟩ _).mono ?_
            rintro e w2 ⟨rfl, hb2⟩
            have Bz2 := Bz1.trans (hb2.mono (by have := Bz1.size; rw [unhide HZ] at this; exact this))
            have a0 := unhide HCL w2 Bz2 0 _ rfl
            have a1 := unhide HCL w2 Bz2 1 _ rfl
            have a2 := unhide HCL w2 Bz2 2 _ rfl
            have a3 := unhide HCL w2 Bz2 3 _ rfl
            have a4 := unhide HCL w2 Bz2 4 _ rfl
            have a5 := unhide HCL w2 Bz2 5 _ rfl
            have a6 := unhide HCL w2 Bz2 6 _ rfl
            have a7 := unhide HCL w2 Bz2 7 _ rfl
            rw [hd]
            go_wp2_with (go_at_call 46; refine (in_any _ _ _ _).mono ?_; rintro e w' ⟨rfl, hw'⟩; rw [hw']; clear hw' w')
            go_ret
            exact ⟨by rw [← unhide HR]; rfl, unhide HB _ Bz2⟩
          · have HR := hide (show inB n 0 7 = Is.ok ⟨op, ⟨sm, sr, sx⟩, ⟨dm, dr, dx⟩, n⟩ by simp [Is.ok, *])
            go_enter Try.func71, Try.ntmps71
            go_wp2_with (go_at_call 46; refine (in_any _ _ _ _).mono ?_; rintro e w' ⟨rfl, hw'⟩; rw [hw']; clear hw' w')
            refine (zero_any ⟨sm, sr, sx⟩ _).mono ?_
            rintro e w1 ⟨rfl, hb1⟩
            rw [unhide HZ] at hb1
            have Bz1 := hb1
            have a0 := unhide HCL w1 Bz1 0 _ rfl
            have a1 := unhide HCL w1 Bz1 1 _ rfl
            have a2 := unhide HCL w1 Bz1 2 _ rfl
            have a3 := unhide HCL w1 Bz1 3 _ rfl
            have a4 := unhide HCL w1 Bz1 4 _ rfl
            have a5 := unhide HCL w1 Bz1 5 _ rfl
            have a6 := unhide HCL w1 Bz1 6 _ rfl
            have a7 := unhide HCL w1 Bz1 7 _ rfl
            rw [hs]
            clear hb1
            go_wp2_with (go_at_call 46; refine (in_any _ _ _ _).mono ?_; rintro e w' ⟨rfl, hw'⟩; rw [hw']; clear hw' w')
            refine (opdOk_any ⟨dm, dr, dx⟩ _).mono ?_
            rintro e w2 ⟨rfl, hb2⟩
            have Bz2 := Bz1.trans (hb2.mono (by have := Bz1.size; rw [unhide HZ] at this; exact this))
            have a0 := unhide HCL w2 Bz2 0 _ rfl
            have a1 := unhide HCL w2 Bz2 1 _ rfl
            have a2 := unhide HCL w2 Bz2 2 _ rfl
            have a3 := unhide HCL w2 Bz2 3 _ rfl
            have a4 := unhide HCL w2 Bz2 4 _ rfl
            have a5 := unhide HCL w2 Bz2 5 _ rfl
            have a6 := unhide HCL w2 Bz2 6 _ rfl
            have a7 := unhide HCL w2 Bz2 7 _ rfl
            rw [hd]
            go_wp2_with (go_at_call 46; refine (in_any _ _ _ _).mono ?_; rintro e w' ⟨rfl, hw'⟩; rw [hw']; clear hw' w')
            go_ret
            exact ⟨by rw [← unhide HR]; rfl, unhide HB _ Bz2⟩
    · cases hs : Od.zero ⟨sm, sr, sx⟩
      · have HR := hide (show false = Is.ok ⟨op, ⟨sm, sr, sx⟩, ⟨dm, dr, dx⟩, n⟩ by simp [Is.ok, *])
        go_enter Try.func71, Try.ntmps71
        go_wp2_with (go_at_call 46; refine (in_any _ _ _ _).mono ?_; rintro e w' ⟨rfl, hw'⟩; rw [hw']; clear hw' w')
        refine (zero_any ⟨sm, sr, sx⟩ _).mono ?_
        rintro e w1 ⟨rfl, hb1⟩
        rw [unhide HZ] at hb1
        have Bz1 := hb1
        have a0 := unhide HCL w1 Bz1 0 _ rfl
        have a1 := unhide HCL w1 Bz1 1 _ rfl
        have a2 := unhide HCL w1 Bz1 2 _ rfl
        have a3 := unhide HCL w1 Bz1 3 _ rfl
        have a4 := unhide HCL w1 Bz1 4 _ rfl
        have a5 := unhide HCL w1 Bz1 5 _ rfl
        have a6 := unhide HCL w1 Bz1 6 _ rfl
        have a7 := unhide HCL w1 Bz1 7 _ rfl
        rw [hs]
        go_wp2_with (go_at_call 46; refine (in_any _ _ _ _).mono ?_; rintro e w' ⟨rfl, hw'⟩; rw [hw']; clear hw' w')
        go_ret
        exact ⟨by rw [← unhide HR]; rfl, unhide HB _ Bz1⟩
      · cases hd : Od.ok ⟨dm, dr, dx⟩
        · have HR := hide (show false = Is.ok ⟨op, ⟨sm, sr, sx⟩, ⟨dm, dr, dx⟩, n⟩ by simp [Is.ok, *])
          go_enter Try.func71, Try.ntmps71
          go_wp2_with (go_at_call 46; refine (in_any _ _ _ _).mono ?_; rintro e w' ⟨rfl, hw'⟩; rw [hw']; clear hw' w')
          refine (zero_any ⟨sm, sr, sx⟩ _).mono ?_
          rintro e w1 ⟨rfl, hb1⟩
          rw [unhide HZ] at hb1
          have Bz1 := hb1
          have a0 := unhide HCL w1 Bz1 0 _ rfl
          have a1 := unhide HCL w1 Bz1 1 _ rfl
          have a2 := unhide HCL w1 Bz1 2 _ rfl
          have a3 := unhide HCL w1 Bz1 3 _ rfl
          have a4 := unhide HCL w1 Bz1 4 _ rfl
          have a5 := unhide HCL w1 Bz1 5 _ rfl
          have a6 := unhide HCL w1 Bz1 6 _ rfl
          have a7 := unhide HCL w1 Bz1 7 _ rfl
          rw [hs]
          clear hb1
          go_wp2_with (go_at_call 46; refine (in_any _ _ _ _).mono ?_; rintro e w' ⟨rfl, hw'⟩; rw [hw']; clear hw' w')
          refine (opdOk_any ⟨dm, dr, dx⟩ _).mono ?_
          rintro e w2 ⟨rfl, hb2⟩
          have Bz2 := Bz1.trans (hb2.mono (by have := Bz1.size; rw [unhide HZ] at this; exact this))
          have a0 := unhide HCL w2 Bz2 0 _ rfl
          have a1 := unhide HCL w2 Bz2 1 _ rfl
          have a2 := unhide HCL w2 Bz2 2 _ rfl
          have a3 := unhide HCL w2 Bz2 3 _ rfl
          have a4 := unhide HCL w2 Bz2 4 _ rfl
          have a5 := unhide HCL w2 Bz2 5 _ rfl
          have a6 := unhide HCL w2 Bz2 6 _ rfl
          have a7 := unhide HCL w2 Bz2 7 _ rfl
          rw [hd]
          go_wp2_with (go_at_call 46; refine (in_any _ _ _ _).mono ?_; rintro e w' ⟨rfl, hw'⟩; rw [hw']; clear hw' w')
          go_ret
          exact ⟨by rw [← unhide HR]; rfl, unhide HB _ Bz2⟩
        · have HR := hide (show (n == 0) = Is.ok ⟨op, ⟨sm, sr, sx⟩, ⟨dm, dr, dx⟩, n⟩ by simp [Is.ok, *])
          go_enter Try.func71, Try.ntmps71
          go_wp2_with (go_at_call 46; refine (in_any _ _ _ _).mono ?_; rintro e w' ⟨rfl, hw'⟩; rw [hw']; clear hw' w')
          refine (zero_any ⟨sm, sr, sx⟩ _).mono ?_
          rintro e w1 ⟨rfl, hb1⟩
          rw [unhide HZ] at hb1
          have Bz1 := hb1
          have a0 := unhide HCL w1 Bz1 0 _ rfl
          have a1 := unhide HCL w1 Bz1 1 _ rfl
          have a2 := unhide HCL w1 Bz1 2 _ rfl
          have a3 := unhide HCL w1 Bz1 3 _ rfl
          have a4 := unhide HCL w1 Bz1 4 _ rfl
          have a5 := unhide HCL w1 Bz1 5 _ rfl
          have a6 := unhide HCL w1 Bz1 6 _ rfl
          have a7 := unhide HCL w1 Bz1 7 _ rfl
          rw [hs]
          clear hb1
          go_wp2_with (go_at_call 46; refine (in_any _ _ _ _).mono ?_; rintro e w' ⟨rfl, hw'⟩; rw [hw']; clear hw' w')
          refine (opdOk_any ⟨dm, dr, dx⟩ _).mono ?_
          rintro e w2 ⟨rfl, hb2⟩
          have Bz2 := Bz1.trans (hb2.mono (by have := Bz1.size; rw [unhide HZ] at this; exact this))
          have a0 := unhide HCL w2 Bz2 0 _ rfl
          have a1 := unhide HCL w2 Bz2 1 _ rfl
          have a2 := unhide HCL w2 Bz2 2 _ rfl
          have a3 := unhide HCL w2 Bz2 3 _ rfl
          have a4 := unhide HCL w2 Bz2 4 _ rfl
          have a5 := unhide HCL w2 Bz2 5 _ rfl
          have a6 := unhide HCL w2 Bz2 6 _ rfl
          have a7 := unhide HCL w2 Bz2 7 _ rfl
          rw [hd]
          go_wp2_with (go_at_call 46; refine (in_any _ _ _ _).mono ?_; rintro e w' ⟨rfl, hw'⟩; rw [hw']; clear hw' w')
          go_ret
          exact ⟨by rw [← unhide HR]; rfl, unhide HB _ Bz2⟩
  · cases hs : Od.ok ⟨sm, sr, sx⟩
    · have HR := hide (show false = Is.ok ⟨op, ⟨sm, sr, sx⟩, ⟨dm, dr, dx⟩, n⟩ by simp [Is.ok, *])
      go_enter Try.func71, Try.ntmps71
      go_wp2_with (go_at_call 46; refine (in_any _ _ _ _).mono ?_; rintro e w' ⟨rfl, hw'⟩; rw [hw']; clear hw' w')
      refine (opdOk_any ⟨sm, sr, sx⟩ _).mono ?_
      rintro e w1 ⟨rfl, hb1⟩
      rw [unhide HZ] at hb1
      have Bz1 := hb1
      have a0 := unhide HCL w1 Bz1 0 _ rfl
      have a1 := unhide HCL w1 Bz1 1 _ rfl
      have a2 := unhide HCL w1 Bz1 2 _ rfl
      have a3 := unhide HCL w1 Bz1 3 _ rfl
      have a4 := unhide HCL w1 Bz1 4 _ rfl
      have a5 := unhide HCL w1 Bz1 5 _ rfl
      have a6 := unhide HCL w1 Bz1 6 _ rfl
      have a7 := unhide HCL w1 Bz1 7 _ rfl
      rw [hs]
      go_wp2_with (go_at_call 46; refine (in_any _ _ _ _).mono ?_; rintro e w' ⟨rfl, hw'⟩; rw [hw']; clear hw' w')
      go_ret
      exact ⟨by rw [← unhide HR]; rfl, unhide HB _ Bz1⟩
    · cases hd : Od.ok ⟨dm, dr, dx⟩
      · have HR := hide (show false = Is.ok ⟨op, ⟨sm, sr, sx⟩, ⟨dm, dr, dx⟩, n⟩ by simp [Is.ok, *])
        go_enter Try.func71, Try.ntmps71
        go_wp2_with (go_at_call 46; refine (in_any _ _ _ _).mono ?_; rintro e w' ⟨rfl, hw'⟩; rw [hw']; clear hw' w')
        refine (opdOk_any ⟨sm, sr, sx⟩ _).mono ?_
        rintro e w1 ⟨rfl, hb1⟩
        rw [unhide HZ] at hb1
        have Bz1 := hb1
        have a0 := unhide HCL w1 Bz1 0 _ rfl
        have a1 := unhide HCL w1 Bz1 1 _ rfl
        have a2 := unhide HCL w1 Bz1 2 _ rfl
        have a3 := unhide HCL w1 Bz1 3 _ rfl
        have a4 := unhide HCL w1 Bz1 4 _ rfl
        have a5 := unhide HCL w1 Bz1 5 _ rfl
        have a6 := unhide HCL w1 Bz1 6 _ rfl
        have a7 := unhide HCL w1 Bz1 7 _ rfl
        rw [hs]
        clear hb1
        go_wp2_with (go_at_call 46; refine (in_any _ _ _ _).mono ?_; rintro e w' ⟨rfl, hw'⟩; rw [hw']; clear hw' w')
        refine (opdOk_any ⟨dm, dr, dx⟩ _).mono ?_
        rintro e w2 ⟨rfl, hb2⟩
        have Bz2 := Bz1.trans (hb2.mono (by have := Bz1.size; rw [unhide HZ] at this; exact this))
        have a0 := unhide HCL w2 Bz2 0 _ rfl
        have a1 := unhide HCL w2 Bz2 1 _ rfl
        have a2 := unhide HCL w2 Bz2 2 _ rfl
        have a3 := unhide HCL w2 Bz2 3 _ rfl
        have a4 := unhide HCL w2 Bz2 4 _ rfl
        have a5 := unhide HCL w2 Bz2 5 _ rfl
        have a6 := unhide HCL w2 Bz2 6 _ rfl
        have a7 := unhide HCL w2 Bz2 7 _ rfl
        rw [hd]
        go_wp2_with (go_at_call 46; refine (in_any _ _ _ _).mono ?_; rintro e w' ⟨rfl, hw'⟩; rw [hw']; clear hw' w')
        go_ret
        exact ⟨by rw [← unhide HR]; rfl, unhide HB _ Bz2⟩
      · have HR := hide (show (n == 0) = Is.ok ⟨op, ⟨sm, sr, sx⟩, ⟨dm, dr, dx⟩, n⟩ by simp [Is.ok, *])
        go_enter Try.func71, Try.ntmps71
        go_wp2_with (go_at_call 46; refine (in_any _ _ _ _).mono ?_; rintro e w' ⟨rfl, hw'⟩; rw [hw']; clear hw' w')
        refine (opdOk_any ⟨sm, sr, sx⟩ _).mono ?_
        rintro e w1 ⟨rfl, hb1⟩
        rw [unhide HZ] at hb1
        have Bz1 := hb1
        have a0 := unhide HCL w1 Bz1 0 _ rfl
        have a1 := unhide HCL w1 Bz1 1 _ rfl
        have a2 := unhide HCL w1 Bz1 2 _ rfl
        have a3 := unhide HCL w1 Bz1 3 _ rfl
        have a4 := unhide HCL w1 Bz1 4 _ rfl
        have a5 := unhide HCL w1 Bz1 5 _ rfl
        have a6 := unhide HCL w1 Bz1 6 _ rfl
        have a7 := unhide HCL w1 Bz1 7 _ rfl
        rw [hs]
        clear hb1
        go_wp2_with (go_at_call 46; refine (in_any _ _ _ _).mono ?_; rintro e w' ⟨rfl, hw'⟩; rw [hw']; clear hw' w')
        refine (opdOk_any ⟨dm, dr, dx⟩ _).mono ?_
        rintro e w2 ⟨rfl, hb2⟩
        have Bz2 := Bz1.trans (hb2.mono (by have := Bz1.size; rw [unhide HZ] at this; exact this))
        have a0 := unhide HCL w2 Bz2 0 _ rfl
        have a1 := unhide HCL w2 Bz2 1 _ rfl
        have a2 := unhide HCL w2 Bz2 2 _ rfl
        have a3 := unhide HCL w2 Bz2 3 _ rfl
        have a4 := unhide HCL w2 Bz2 4 _ rfl
        have a5 := unhide HCL w2 Bz2 5 _ rfl
        have a6 := unhide HCL w2 Bz2 6 _ rfl
        have a7 := unhide HCL w2 Bz2 7 _ rfl
        rw [hd]
        go_wp2_with (go_at_call 46; refine (in_any _ _ _ _).mono ?_; rintro e w' ⟨rfl, hw'⟩; rw [hw']; clear hw' w')
        go_ret
        exact ⟨by rw [← unhide HR]; rfl, unhide HB _ Bz2⟩
end Go.Proofs.Ytjpbjbnialehbaa
