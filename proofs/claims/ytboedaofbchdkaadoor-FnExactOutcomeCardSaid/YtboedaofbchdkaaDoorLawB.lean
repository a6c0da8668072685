/- What the laws that mark stand on; over this seat's translation; conditions stand as hypotheses of each. -/
import Derived.Test.YtboedaofbchdkaaDoorMacP
namespace Go.Proofs.YtboedaofbchdkaaDoor
open Go.ChangeShapes Go.WideShapes Go.ChangeAt Go.RowKit
set_option linter.unusedVariables false
set_option maxRecDepth 8000
set_option linter.unusedSimpArgs false

theorem Lw.tch {W w w' : World} {x y : Mv} {e : Md} (h : Lw W w x e) (hW : RdM W x e) (t : Tch w w' y) (hy : ∀ b, y.at b → W.heap.size < b) : Lw W w' x e :=
  ⟨row_tch h.bx t (fun e => by have := hy _ e; omega), h.rd.tch hW t (fun b e => Nat.le_of_lt (hy b e)), t.toBelow h.bel (Nat.le_of_lt h.lt) (fun b e => Nat.le_of_lt (hy b e))⟩
theorem small_md {w : World} {x : Mv} {d : Md} (h : RdM w x d) (hs : x.small) : d.small := ⟨by rw [h.ml]; exact hs.1, by rw [h.rl]; exact hs.2.1, by rw [h.il]; exact hs.2.2.1, by rw [h.ol]; exact hs.2.2.2⟩
theorem small_mv {w : World} {x : Mv} {d : Md} (h : RdM w x d) (hs : d.small) : x.small := ⟨by rw [← h.ml]; exact hs.1, by rw [← h.rl]; exact hs.2.1, by rw [← h.il]; exact hs.2.2.1, by rw [← h.ol]; exact hs.2.2.2⟩
theorem small_put {d : Md} (h : d.small) (a n : Int) : (d.put a n).small := by
  unfold Md.put
  split
  · exact ⟨by simpa using h.1, h.2.1, h.2.2.1, h.2.2.2⟩
  · exact h
theorem alloc_size (w : World) (o : Obj) : (w.alloc o).heap.size = w.heap.size + 1 := by simp
end Go.Proofs.YtboedaofbchdkaaDoor
