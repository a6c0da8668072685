/- The laws' comparison of operands and instructions, at the same ones, over this seat's translation; conditions stand as hypotheses of each. -/
import Derived.Test.YtomoakfemdjpbaaDoorSubW
namespace Go.Proofs.YtomoakfemdjpbaaDoor
open Go.ChangeShapes Go.WideShapes Go.ChangeAt Go.RowKit
set_option linter.unusedVariables false

set_option maxHeartbeats 1000000 in
theorem eqOpd_same (o : Od) (w : World) : Calls Tryd.prog 46 #[o.v, o.v] w fun e w' => e = .returned (.bool true) ∧ Below w.heap.size w w' := by
  obtain ⟨m, r, x⟩ := o
  unfold Od.v
  simp only
  go_enter Tryd.func46, Tryd.ntmps46
  go_wp2
  go_ret
  exact ⟨rfl, ((Below.refl _ _).alloc (Nat.le_refl _) _).alloc (by simp) _⟩

theorem two_cells (w : World) (c1 c2 : Array Value) (t : TypeId) (w2 : World) (h : Below (w.heap.size + 2) ((w.alloc (.cells c1 t)).alloc (.cells c2 t)) w2) :
    (∀ (q : Nat) v, c1[q]? = some v → w2.cell? ⟨w.heap.size, q, none⟩ = some v) ∧ (∀ (q : Nat) v, c2[q]? = some v → w2.cell? ⟨w.heap.size + 1, q, none⟩ = some v) ∧ Below w.heap.size w w2 := by
  have hz : (w.alloc (.cells c1 t)).heap.size = w.heap.size + 1 := by simp
  have h1 : Below (w.heap.size + 1) (w.alloc (.cells c1 t)) w2 := by
    have a : Below (w.heap.size + 1) (w.alloc (.cells c1 t)) ((w.alloc (.cells c1 t)).alloc (.cells c2 t)) := (Below.refl _ _).alloc (by rw [hz]; exact Nat.le_refl _) _
    exact a.trans (h.mono (by omega))
  have h2 : Below ((w.alloc (.cells c1 t)).heap.size + 1) ((w.alloc (.cells c1 t)).alloc (.cells c2 t)) w2 := by rw [hz]; exact h
  refine ⟨fun q v hv => box_cells w c1 t w2 h1 q v hv, fun q v hv => ?_, box_below w _ w2 h1⟩
  have := box_cells (w.alloc (.cells c1 t)) c2 t w2 h2 q v hv
  rw [hz] at this
  exact this

set_option maxHeartbeats 1000000 in
theorem eqIns_same (i : Is) (w : World) : Calls Tryd.prog 24 #[i.v, i.v] w fun e w' => e = .returned (.bool true) ∧ Below w.heap.size w w' := by
  have FS := hide (fun w => eqOpd_same i.s w)
  have FD := hide (fun w => eqOpd_same i.d w)
  obtain ⟨op, ⟨sm, sr, sx⟩, ⟨dm, dr, dx⟩, n⟩ := i
  have TC := hide (fun w2 h => two_cells w #[.int .i64 op, .int .i64 sm, .int .i64 sr, .int .i64 sx, .int .i64 dm, .int .i64 dr, .int .i64 dx, .int .i64 n] #[.int .i64 op, .int .i64 sm, .int .i64 sr, .int .i64 sx, .int .i64 dm, .int .i64 dr, .int .i64 dx, .int .i64 n] 27 w2 h)
  have HZ := hide (show w.heap.size + 2 ≤ ((w.alloc (Obj.cells #[.int .i64 op, .int .i64 sm, .int .i64 sr, .int .i64 sx, .int .i64 dm, .int .i64 dr, .int .i64 dx, .int .i64 n] 27)).alloc (Obj.cells #[.int .i64 op, .int .i64 sm, .int .i64 sr, .int .i64 sx, .int .i64 dm, .int .i64 dr, .int .i64 dx, .int .i64 n] 27)).heap.size by simp)
  have T0 : Sub (w.heap.size + 2) ((w.alloc (Obj.cells #[.int .i64 op, .int .i64 sm, .int .i64 sr, .int .i64 sx, .int .i64 dm, .int .i64 dr, .int .i64 dx, .int .i64 n] 27)).alloc (Obj.cells #[.int .i64 op, .int .i64 sm, .int .i64 sr, .int .i64 sx, .int .i64 dm, .int .i64 dr, .int .i64 dx, .int .i64 n] 27)) := ⟨_, Below.refl _ _⟩
  have a0 : ∀ y : Sub (w.heap.size + 2) ((w.alloc (Obj.cells #[.int .i64 op, .int .i64 sm, .int .i64 sr, .int .i64 sx, .int .i64 dm, .int .i64 dr, .int .i64 dx, .int .i64 n] 27)).alloc (Obj.cells #[.int .i64 op, .int .i64 sm, .int .i64 sr, .int .i64 sx, .int .i64 dm, .int .i64 dr, .int .i64 dx, .int .i64 n] 27)), y.w.cell? ⟨w.heap.size, 0, none⟩ = some (.int .i64 op) := fun y => (unhide TC y.w y.h).1 0 _ rfl
  have b0 : ∀ y : Sub (w.heap.size + 2) ((w.alloc (Obj.cells #[.int .i64 op, .int .i64 sm, .int .i64 sr, .int .i64 sx, .int .i64 dm, .int .i64 dr, .int .i64 dx, .int .i64 n] 27)).alloc (Obj.cells #[.int .i64 op, .int .i64 sm, .int .i64 sr, .int .i64 sx, .int .i64 dm, .int .i64 dr, .int .i64 dx, .int .i64 n] 27)), y.w.cell? ⟨w.heap.size + 1, 0, none⟩ = some (.int .i64 op) := fun y => (unhide TC y.w y.h).2.1 0 _ rfl
  have a1 : ∀ y : Sub (w.heap.size + 2) ((w.alloc (Obj.cells #[.int .i64 op, .int .i64 sm, .int .i64 sr, .int .i64 sx, .int .i64 dm, .int .i64 dr, .int .i64 dx, .int .i64 n] 27)).alloc (Obj.cells #[.int .i64 op, .int .i64 sm, .int .i64 sr, .int .i64 sx, .int .i64 dm, .int .i64 dr, .int .i64 dx, .int .i64 n] 27)), y.w.cell? ⟨w.heap.size, 1, none⟩ = some (.int .i64 sm) := fun y => (unhide TC y.w y.h).1 1 _ rfl
  have b1 : ∀ y : Sub (w.heap.size + 2) ((w.alloc (Obj.cells #[.int .i64 op, .int .i64 sm, .int .i64 sr, .int .i64 sx, .int .i64 dm, .int .i64 dr, .int .i64 dx, .int .i64 n] 27)).alloc (Obj.cells #[.int .i64 op, .int .i64 sm, .int .i64 sr, .int .i64 sx, .int .i64 dm, .int .i64 dr, .int .i64 dx, .int .i64 n] 27)), y.w.cell? ⟨w.heap.size + 1, 1, none⟩ = some (.int .i64 sm) := fun y => (unhide TC y.w y.h).2.1 1 _ rfl
  have a2 : ∀ y : Sub (w.heap.size + 2) ((w.alloc (Obj.cells #[.int .i64 op, .int .i64 sm, .int .i64 sr, .int .i64 sx, .int .i64 dm, .int .i64 dr, .int .i64 dx, .int .i64 n] 27)).alloc (Obj.cells #[.int .i64 op, .int .i64 sm, .int .i64 sr, .int .i64 sx, .int .i64 dm, .int .i64 dr, .int .i64 dx, .int .i64 n] 27)), y.w.cell? ⟨w.heap.size, 2, none⟩ = some (.int .i64 sr) := fun y => (unhide TC y.w y.h).1 2 _ rfl
  have b2 : ∀ y : Sub (w.heap.size + 2) ((w.alloc (Obj.cells #[.int .i64 op, .int .i64 sm, .int .i64 sr, .int .i64 sx, .int .i64 dm, .int .i64 dr, .int .i64 dx, .int .i64 n] 27)).alloc (Obj.cells #[.int .i64 op, .int .i64 sm, .int .i64 sr, .int .i64 sx, .int .i64 dm, .int .i64 dr, .int .i64 dx, .int .i64 n] 27)), y.w.cell? ⟨w.heap.size + 1, 2, none⟩ = some (.int .i64 sr) := fun y => (unhide TC y.w y.h).2.1 2 _ rfl
  have a3 : ∀ y : Sub (w.heap.size + 2) ((w.alloc (Obj.cells #[.int .i64 op, .int .i64 sm, .int .i64 sr, .int .i64 sx, .int .i64 dm, .int .i64 dr, .int .i64 dx, .int .i64 n] 27)).alloc (Obj.cells #[.int .i64 op, .int .i64 sm, .int .i64 sr, .int .i64 sx, .int .i64 dm, .int .i64 dr, .int .i64 dx, .int .i64 n] 27)), y.w.cell? ⟨w.heap.size, 3, none⟩ = some (.int .i64 sx) := fun y => (unhide TC y.w y.h).1 3 _ rfl
  have b3 : ∀ y : Sub (w.heap.size + 2) ((w.alloc (Obj.cells #[.int .i64 op, .int .i64 sm, .int .i64 sr, .int .i64 sx, .int .i64 dm, .int .i64 dr, .int .i64 dx, .int .i64 n] 27)).alloc (Obj.cells #[.int .i64 op, .int .i64 sm, .int .i64 sr, .int .i64 sx, .int .i64 dm, .int .i64 dr, .int .i64 dx, .int .i64 n] 27)), y.w.cell? ⟨w.heap.size + 1, 3, none⟩ = some (.int .i64 sx) := fun y => (unhide TC y.w y.h).2.1 3 _ rfl
  have a4 : ∀ y : Sub (w.heap.size + 2) ((w.alloc (Obj.cells #[.int .i64 op, .int .i64 sm, .int .i64 sr, .int .i64 sx, .int .i64 dm, .int .i64 dr, .int .i64 dx, .int .i64 n] 27)).alloc (Obj.cells #[.int .i64 op, .int .i64 sm, .int .i64 sr, .int .i64 sx, .int .i64 dm, .int .i64 dr, .int .i64 dx, .int .i64 n] 27)), y.w.cell? ⟨w.heap.size, 4, none⟩ = some (.int .i64 dm) := fun y => (unhide TC y.w y.h).1 4 _ rfl
  have b4 : ∀ y : Sub (w.heap.size + 2) ((w.alloc (Obj.cells #[.int .i64 op, .int .i64 sm, .int .i64 sr, .int .i64 sx, .int .i64 dm, .int .i64 dr, .int .i64 dx, .int .i64 n] 27)).alloc (Obj.cells #[.int .i64 op, .int .i64 sm, .int .i64 sr, .int .i64 sx, .int .i64 dm, .int .i64 dr, .int .i64 dx, .int .i64 n] 27)), y.w.cell? ⟨w.heap.size + 1, 4, none⟩ = some (.int .i64 dm) := fun y => (unhide TC y.w y.h).2.1 4 _ rfl
  have a5 : ∀ y : Sub (w.heap.size + 2) ((w.alloc (Obj.cells #[.int .i64 op, .int .i64 sm, .int .i64 sr, .int .i64 sx, .int .i64 dm, .int .i64 dr, .int .i64 dx, .int .i64 n] 27)).alloc (Obj.cells #[.int .i64 op, .int .i64 sm, .int .i64 sr, .int .i64 sx, .int .i64 dm, .int .i64 dr, .int .i64 dx, .int .i64 n] 27)), y.w.cell? ⟨w.heap.size, 5, none⟩ = some (.int .i64 dr) := fun y => (unhide TC y.w y.h).1 5 _ rfl
  have b5 : ∀ y : Sub (w.heap.size + 2) ((w.alloc (Obj.cells #[.int .i64 op, .int .i64 sm, .int .i64 sr, .int .i64 sx, .int .i64 dm, .int .i64 dr, .int .i64 dx, .int .i64 n] 27)).alloc (Obj.cells #[.int .i64 op, .int .i64 sm, .int .i64 sr, .int .i64 sx, .int .i64 dm, .int .i64 dr, .int .i64 dx, .int .i64 n] 27)), y.w.cell? ⟨w.heap.size + 1, 5, none⟩ = some (.int .i64 dr) := fun y => (unhide TC y.w y.h).2.1 5 _ rfl
  have a6 : ∀ y : Sub (w.heap.size + 2) ((w.alloc (Obj.cells #[.int .i64 op, .int .i64 sm, .int .i64 sr, .int .i64 sx, .int .i64 dm, .int .i64 dr, .int .i64 dx, .int .i64 n] 27)).alloc (Obj.cells #[.int .i64 op, .int .i64 sm, .int .i64 sr, .int .i64 sx, .int .i64 dm, .int .i64 dr, .int .i64 dx, .int .i64 n] 27)), y.w.cell? ⟨w.heap.size, 6, none⟩ = some (.int .i64 dx) := fun y => (unhide TC y.w y.h).1 6 _ rfl
  have b6 : ∀ y : Sub (w.heap.size + 2) ((w.alloc (Obj.cells #[.int .i64 op, .int .i64 sm, .int .i64 sr, .int .i64 sx, .int .i64 dm, .int .i64 dr, .int .i64 dx, .int .i64 n] 27)).alloc (Obj.cells #[.int .i64 op, .int .i64 sm, .int .i64 sr, .int .i64 sx, .int .i64 dm, .int .i64 dr, .int .i64 dx, .int .i64 n] 27)), y.w.cell? ⟨w.heap.size + 1, 6, none⟩ = some (.int .i64 dx) := fun y => (unhide TC y.w y.h).2.1 6 _ rfl
  have a7 : ∀ y : Sub (w.heap.size + 2) ((w.alloc (Obj.cells #[.int .i64 op, .int .i64 sm, .int .i64 sr, .int .i64 sx, .int .i64 dm, .int .i64 dr, .int .i64 dx, .int .i64 n] 27)).alloc (Obj.cells #[.int .i64 op, .int .i64 sm, .int .i64 sr, .int .i64 sx, .int .i64 dm, .int .i64 dr, .int .i64 dx, .int .i64 n] 27)), y.w.cell? ⟨w.heap.size, 7, none⟩ = some (.int .i64 n) := fun y => (unhide TC y.w y.h).1 7 _ rfl
  have b7 : ∀ y : Sub (w.heap.size + 2) ((w.alloc (Obj.cells #[.int .i64 op, .int .i64 sm, .int .i64 sr, .int .i64 sx, .int .i64 dm, .int .i64 dr, .int .i64 dx, .int .i64 n] 27)).alloc (Obj.cells #[.int .i64 op, .int .i64 sm, .int .i64 sr, .int .i64 sx, .int .i64 dm, .int .i64 dr, .int .i64 dx, .int .i64 n] 27)), y.w.cell? ⟨w.heap.size + 1, 7, none⟩ = some (.int .i64 n) := fun y => (unhide TC y.w y.h).2.1 7 _ rfl
  unfold Is.v
  unfold Od.v at FS FD
  simp only at FS FD ⊢
  go_enter Tryd.func24, Tryd.ntmps24
  go_wp2_with fail
  refine (Sub.call (x := ⟨_, Below.refl _ _⟩) (unhide HZ) (unhide FS _)).mono ?_
  rintro e _ ⟨rfl, y1, rfl⟩
  go_wp2_with fail
  refine (Sub.call (unhide HZ) (unhide FD _)).mono ?_
  rintro e _ ⟨rfl, y2, rfl⟩
  go_wp2
  go_ret
  exact ⟨rfl, (unhide TC _ y2.h).2.2⟩
end Go.Proofs.YtomoakfemdjpbaaDoor
