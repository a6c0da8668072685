/- What the loop of the machines' law reads: the words of two machines, by their rows; over this seat's translation; conditions stand as hypotheses of each. -/
import Derived.Test.YtfkmibgamkignaaLawD
namespace Go.Proofs.Ytfkmibgamkignaa
open Go.ChangeShapes Go.WideShapes Go.ChangeAt Go.RowKit
set_option linter.unusedVariables false
set_option maxRecDepth 8000
set_option linter.unusedSimpArgs false

theorem rdN_at {w : World} {s : Sl} {ns : List Int} {g n c : Nat} (h : RdN w s.a ns) (e : s = ⟨some ⟨g, 0, none⟩, n, c⟩) (j : Nat) (hj : j < ns.length) : w.cell? ⟨g, j, none⟩ = some (.int .i64 (nAt ns j)) := by
  subst e
  rcases h with rfl | ⟨b, off, e2, hb, hc⟩
  · simp at hj
  · simp at e2
    obtain ⟨rfl, rfl⟩ := e2
    simpa using hc j hj
/-- Two machines' words: where they lie. -/
structure Tl (w : World) (g h : Nat) (e d : Md) (gy cy gx cx : Nat) : Prop where
  c1 : w.cell? ⟨g, 0, none⟩ = some (.slice (some ⟨gy, 0, none⟩) 256 cy)
  c2 : w.cell? ⟨h, 0, none⟩ = some (.slice (some ⟨gx, 0, none⟩) 256 cx)
  c3 : ∀ j, j < 256 → w.cell? ⟨gy, j, none⟩ = some (.int .i64 (nAt e.m j))
  c4 : ∀ j, j < 256 → w.cell? ⟨gx, j, none⟩ = some (.int .i64 (nAt d.m j))
theorem cell_lat {w w' : World} {p : Addr} {v : Value} (h : w.cell? p = some v) (hb : Below w.heap.size w w') : w'.cell? p = some v :=
  (hb.cell (p := p) (World.block_lt_of_cell? w p h)).trans h
theorem Tl.later {w w' : World} {g h : Nat} {e d : Md} {gy cy gx cx : Nat} (t : Tl w g h e d gy cy gx cx) (hb : Below w.heap.size w w') : Tl w' g h e d gy cy gx cx :=
  ⟨cell_lat t.c1 hb, cell_lat t.c2 hb, fun j hj => cell_lat (t.c3 j hj) hb, fun j hj => cell_lat (t.c4 j hj) hb⟩
theorem tl_of {w : World} {g h B C : Nat} {e d : Md} {y x : Mv} {ty tx : TypeId} (ry : w.heap[g]? = some (.cells y.cs ty (0, 0))) (rx : w.heap[h]? = some (.cells x.cs tx (0, 0))) (oy : OwnM w B y e) (ox : OwnM w C x d) (de : Dk e) (dd : Dk d) :
    ∃ gy cy gx cx, Tl w g h e d gy cy gx cx := by
  obtain ⟨gy, cy, ey⟩ := sl_form oy.m (by rw [de.ml]; omega)
  obtain ⟨gx, cx, ex⟩ := sl_form ox.m (by rw [dd.ml]; omega)
  rw [de.ml] at ey
  rw [dd.ml] at ex
  exact ⟨gy, cy, gx, cx, by rw [row_m ry, ey], by rw [row_m rx, ex], fun j hj => rdN_at oy.rd.m ey j (by rw [de.ml]; exact hj), fun j hj => rdN_at ox.rd.m ex j (by rw [dd.ml]; exact hj)⟩
end Go.Proofs.Ytfkmibgamkignaa
