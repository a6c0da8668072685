/- Contracts of the laws' copy of an instruction, over this seat's translation; conditions stand as hypotheses of each. -/
import Derived.Test.YtboedaofbchdkaaDoorInsC
namespace Go.Proofs.YtboedaofbchdkaaDoor
open Go.ChangeShapes Go.WideShapes Go.ChangeAt Go.RowKit
set_option linter.unusedVariables false
set_option maxRecDepth 8000

def c8 (l : List Int) (j : Nat) : Value := .int .i64 (l.getD j 0)
def cs8 (l : List Int) : Array Value := #[c8 l 0, c8 l 1, c8 l 2, c8 l 3, c8 l 4, c8 l 5, c8 l 6, c8 l 7]
theorem row8 (w : World) (l : List Int) (t : TypeId) : (w.alloc (Obj.cells (cs8 l) t)).rowIs w.heap.size t 8 (c8 l) :=
  ⟨_, Array.getElem?_push_size, rfl, fun i hi => by
    obtain rfl | rfl | rfl | rfl | rfl | rfl | rfl | rfl : i = 0 ∨ i = 1 ∨ i = 2 ∨ i = 3 ∨ i = 4 ∨ i = 5 ∨ i = 6 ∨ i = 7 := by omega
    all_goals rfl⟩
theorem row8_heap {w : World} {b t : Nat} {l : List Int} (h : w.rowIs b t 8 (c8 l)) : w.heap[b]? = some (.cells (cs8 l) t (0, 0)) := by
  obtain ⟨c, hc, hs, hv⟩ := h
  rw [hc]
  congr 2
  apply Array.ext'
  apply List.ext_getElem?
  intro i
  by_cases hi : i < 8
  · rw [Array.getElem?_toList, hv i hi]
    obtain rfl | rfl | rfl | rfl | rfl | rfl | rfl | rfl : i = 0 ∨ i = 1 ∨ i = 2 ∨ i = 3 ∨ i = 4 ∨ i = 5 ∨ i = 6 ∨ i = 7 := by omega
    all_goals rfl
  · rw [List.getElem?_eq_none (by simp; omega), List.getElem?_eq_none (by simp [cs8]; omega)]
/-- A store into the row. -/
theorem row8_set {w : World} {b t : Nat} {l l' : List Int} (h : w.rowIs b t 8 (c8 l)) (k : Nat) (x : Int) (he : ∀ j, j < 8 → (if j = k then Value.int .i64 x else c8 l j) = c8 l' j) : (w.setCell ⟨b, k, none⟩ (.int .i64 x)).rowIs b t 8 (c8 l') := (h.set k _).congr he

/-- What stands while an instruction is copied: the box, the answer's block, the copy. -/
structure Cp (w wr : World) (tb ti : TypeId) (l r o : List Int) : Prop where
  bel : Below w.heap.size w wr
  box : wr.rowIs w.heap.size tb 8 (c8 l)
  res : wr.rowIs (w.heap.size + 1) ti 8 (c8 r)
  out : wr.rowIs (w.heap.size + 2) ti 8 (c8 o)
section
variable {w wr w' : World} {tb ti : TypeId} {l r o : List Int}
theorem Cp.later (h : Cp w wr tb ti l r o) (hb : Below wr.heap.size wr w') : Cp w w' tb ti l r o :=
  ⟨h.bel.trans (hb.mono h.bel.size), h.box.of_block (hb.block _ h.box.lt), h.res.of_block (hb.block _ h.res.lt), h.out.of_block (hb.block _ h.out.lt)⟩
theorem Cp.set (h : Cp w wr tb ti l r o) (k : Nat) (x : Int) (o' : List Int) (he : ∀ j, j < 8 → (if j = k then Value.int .i64 x else c8 o j) = c8 o' j) : Cp w (wr.setCell ⟨w.heap.size + 2, k, none⟩ (.int .i64 x)) tb ti l r o' :=
  ⟨h.bel.setCell (by show w.heap.size ≤ w.heap.size + 2; omega) _, h.box.of_block (Below.heap_setCell _ _ _ _ (by show w.heap.size ≠ w.heap.size + 2; omega)), h.res.of_block (Below.heap_setCell _ _ _ _ (by show w.heap.size + 1 ≠ w.heap.size + 2; omega)), row8_set h.out k x he⟩
theorem Cp.setR (h : Cp w wr tb ti l r o) (k : Nat) (x : Int) (r' : List Int) (he : ∀ j, j < 8 → (if j = k then Value.int .i64 x else c8 r j) = c8 r' j) : Cp w (wr.setCell ⟨w.heap.size + 1, k, none⟩ (.int .i64 x)) tb ti l r' o :=
  ⟨h.bel.setCell (by show w.heap.size ≤ w.heap.size + 1; omega) _, h.box.of_block (Below.heap_setCell _ _ _ _ (by show w.heap.size ≠ w.heap.size + 1; omega)), row8_set h.res k x he, h.out.of_block (Below.heap_setCell _ _ _ _ (by show w.heap.size + 2 ≠ w.heap.size + 1; omega))⟩
end
theorem cp_new (w : World) (l o : List Int) (tb ti : TypeId) : Cp w (((w.alloc (Obj.cells (cs8 l) tb)).alloc (Obj.cells (cs8 [0, 0, 0, 0, 0, 0, 0, 0]) ti)).alloc (Obj.cells (cs8 o) ti)) tb ti l [0, 0, 0, 0, 0, 0, 0, 0] o := by
  have h1 : (w.alloc (Obj.cells (cs8 l) tb)).heap.size = w.heap.size + 1 := by simp
  have h2 : ((w.alloc (Obj.cells (cs8 l) tb)).alloc (Obj.cells (cs8 [0, 0, 0, 0, 0, 0, 0, 0]) ti)).heap.size = w.heap.size + 2 := by simp
  refine ⟨(((Below.refl _ _).alloc (Nat.le_refl _) _).alloc (by simp) _).alloc (by simp; omega) _, ((row8 w l tb).alloc _).alloc _, ?_, ?_⟩
  · have := (row8 (w.alloc (Obj.cells (cs8 l) tb)) [0, 0, 0, 0, 0, 0, 0, 0] ti).alloc (Obj.cells (cs8 o) ti)
    rw [h1] at this
    exact this
  · have := row8 ((w.alloc (Obj.cells (cs8 l) tb)).alloc (Obj.cells (cs8 [0, 0, 0, 0, 0, 0, 0, 0]) ti)) o ti
    rw [h2] at this
    exact this

end Go.Proofs.YtboedaofbchdkaaDoor
