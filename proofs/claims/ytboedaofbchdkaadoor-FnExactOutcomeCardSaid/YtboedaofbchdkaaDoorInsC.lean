/- Contracts of chapter 3's model (InsOk), over this seat's translation; conditions stand as hypotheses of each. -/
import Derived.Test.YtboedaofbchdkaaDoorInsB
namespace Go.Proofs.YtboedaofbchdkaaDoor
open Go.ChangeShapes Go.WideShapes Go.ChangeAt Go.RowKit
set_option linter.unusedVariables false
set_option maxRecDepth 8000
set_option linter.unusedSimpArgs false

theorem box_cells (w : World) (cs : Array Value) (t : TypeId) : ∀ w', Below (w.heap.size + 1) (w.alloc (Obj.cells cs t)) w' → ∀ j v, cs[j]? = some v → w'.cell? ⟨w.heap.size, j, none⟩ = some v := fun w' hb j v hv =>
  (hb.cell (p := ⟨w.heap.size, j, none⟩) (by simp)).trans (by rw [World.cell?_alloc_at _ _ _ _ rfl]; exact hv)
theorem box_below (w : World) (o : Obj) : ∀ w', Below (w.heap.size + 1) (w.alloc o) w' → Below w.heap.size w w' := fun w' hb =>
  ((Below.refl _ _).alloc (Nat.le_refl _) _).trans (hb.mono (by omega))

end Go.Proofs.YtboedaofbchdkaaDoor
