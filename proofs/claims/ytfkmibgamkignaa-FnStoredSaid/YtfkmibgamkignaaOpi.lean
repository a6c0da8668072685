/- Contracts of the program's chapter 3 (HasX, OpdOk), over this seat's translation; conditions stand as hypotheses of each. -/
import Derived.Test.YtfkmibgamkignaaMacE
namespace Go.Proofs.Ytfkmibgamkignaa
open Go.ChangeShapes Go.WideShapes Go.ChangeAt Go.RowKit
set_option linter.unusedVariables false
set_option maxRecDepth 8000
set_option linter.unusedSimpArgs false

set_option maxHeartbeats 1000000 in
theorem hasXI_any (o : Od) (w : World) : Calls Try.prog 84 #[o.v] w fun e w' => e = .returned (.bool o.hasX) ∧ Below w.heap.size w w' := by
  obtain ⟨m, r, x⟩ := o
  have HR := hide (show ∀ b : Bool, b = Od.hasX ⟨m, r, x⟩ → Ending.returned (.bool b) = .returned (.bool (Od.hasX ⟨m, r, x⟩)) from fun b h => by rw [h])
  unfold Od.v
  simp only
  have hB := hide ((Below.refl w.heap.size w).alloc (Nat.le_refl _) (Obj.cells #[.int .i64 m, .int .i64 r, .int .i64 x] 40))
  cases h6 : (m == 6)
  · cases h7 : (m == 7)
    · cases h2 : (m == 2)
      · cases h3 : (m == 3)
        · go_enter Try.func84, Try.ntmps84
          go_wp2
          go_ret
          exact ⟨unhide HR _ (by simp [Od.hasX, *]), unhide hB⟩
        · go_enter Try.func84, Try.ntmps84
          go_wp2
          go_ret
          exact ⟨unhide HR _ (by simp [Od.hasX, *]), unhide hB⟩
      · go_enter Try.func84, Try.ntmps84
        go_wp2
        go_ret
        exact ⟨unhide HR _ (by simp [Od.hasX, *]), unhide hB⟩
    · go_enter Try.func84, Try.ntmps84
      go_wp2
      go_ret
      exact ⟨unhide HR _ (by simp [Od.hasX, *]), unhide hB⟩
  · go_enter Try.func84, Try.ntmps84
    go_wp2
    go_ret
    exact ⟨unhide HR _ (by simp [Od.hasX, *]), unhide hB⟩
set_option maxHeartbeats 1000000 in
theorem opdOkI_any (o : Od) (w : World) : Calls Try.prog 65 #[o.v] w fun e w' => e = .returned (.bool o.ok) ∧ Below w.heap.size w w' := by
  have HX := hide (fun w => hasXI_any o w)
  obtain ⟨m, r, x⟩ := o
  have HR := hide (show ∀ b : Bool, b = Od.ok ⟨m, r, x⟩ → Ending.returned (.bool b) = .returned (.bool (Od.ok ⟨m, r, x⟩)) from fun b h => by rw [h])
  have HF : ∀ q, Od.hasX ⟨m, r, x⟩ = q → Od.ok ⟨m, r, x⟩ = (((inB m 0 7 && inB r 0 7) && inB x 0 65535) && (q || x == 0)) := fun q h => by rw [← h]; rfl
  obtain ⟨q, hq⟩ : ∃ q, Od.hasX ⟨m, r, x⟩ = q := ⟨_, rfl⟩
  have HF2 := hide (HF q hq)
  rw [hq] at HX
  clear hq HF
  have hB := hide ((Below.refl w.heap.size w).alloc (Nat.le_refl _) (Obj.cells #[.int .i64 m, .int .i64 r, .int .i64 x] 40))
  have HS := hide (box_below w (Obj.cells #[.int .i64 m, .int .i64 r, .int .i64 x] 40))
  have hz : w.heap.size + 1 ≤ (w.alloc (Obj.cells #[.int .i64 m, .int .i64 r, .int .i64 x] 40)).heap.size := by simp
  have HZ := hide hz
  clear hz
  have hc : ∀ y : Sub (w.heap.size + 1) (w.alloc (Obj.cells #[.int .i64 m, .int .i64 r, .int .i64 x] 40)), y.w.cell? ⟨w.heap.size, 2, none⟩ = some (.int .i64 x) := fun y => y.cells 2 _ rfl
  unfold Od.v at HX ⊢
  simp only at HX ⊢
  cases h1 : decide (m < 0)
  · cases h2 : decide (7 < m)
    · cases h3 : decide (r < 0)
      · cases h4 : decide (7 < r)
        · go_enter Try.func65, Try.ntmps65
          go_wp2_with fail
          refine (Sub.call (x := ⟨_, Below.refl _ _⟩) (unhide HZ) (unhide HX _)).mono ?_
          rintro e _ ⟨rfl, y, rfl⟩
          clear HX
          cases q
          · go_wp2
            go_ret
            exact ⟨unhide HR _ (by rw [unhide HF2]; simp at *; simp [inB, *]; omega), unhide HS _ y.h⟩
          · go_wp2_with (go_at_call 51; refine (isWord_any _ _).mono ?_; rintro e _ ⟨rfl, rfl⟩)
            go_ret
            exact ⟨unhide HR _ (by rw [unhide HF2]; simp at *; simp [inB, *]), unhide HS _ y.h⟩
        · go_enter Try.func65, Try.ntmps65
          go_wp2
          go_ret
          exact ⟨unhide HR _ (by rw [unhide HF2]; simp at *; simp [inB, *]; omega), unhide hB⟩
      · go_enter Try.func65, Try.ntmps65
        go_wp2
        go_ret
        exact ⟨unhide HR _ (by rw [unhide HF2]; simp at *; simp [inB, *]; omega), unhide hB⟩
    · go_enter Try.func65, Try.ntmps65
      go_wp2
      go_ret
      exact ⟨unhide HR _ (by rw [unhide HF2]; simp at *; simp [inB, *]; omega), unhide hB⟩
  · go_enter Try.func65, Try.ntmps65
    go_wp2
    go_ret
    exact ⟨unhide HR _ (by rw [unhide HF2]; simp at *; simp [inB, *]; omega), unhide hB⟩

end Go.Proofs.Ytfkmibgamkignaa
