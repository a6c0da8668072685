/- Contracts of the laws' copy of an instruction, over this seat's translation; conditions stand as hypotheses of each. -/
import Derived.Test.YtomoakfemdjpbaaDoorInsC
namespace Go.Proofs.YtomoakfemdjpbaaDoor
open Go.ChangeShapes Go.WideShapes Go.ChangeAt Go.RowKit
set_option linter.unusedVariables false

def c8 (l : List Int) (j : Nat) : Value := .int .i64 (l.getD j 0)
def cs8 (l : List Int) : Array Value := #[c8 l 0, c8 l 1, c8 l 2, c8 l 3, c8 l 4, c8 l 5, c8 l 6, c8 l 7]
theorem row8 (w : World) (l : List Int) (t : TypeId) : (w.alloc (Obj.cells (cs8 l) t)).rowIs w.heap.size t 8 (c8 l) :=
  ⟨_, Array.getElem?_push_size, rfl, fun i hi => by
    obtain rfl | rfl | rfl | rfl | rfl | rfl | rfl | rfl : i = 0 ∨ i = 1 ∨ i = 2 ∨ i = 3 ∨ i = 4 ∨ i = 5 ∨ i = 6 ∨ i = 7 := by omega
    all_goals rfl⟩
theorem row8_heap {w : World} {b t : Nat} {l : List Int} (h : w.rowIs b t 8 (c8 l)) : w.heap[b]? = some (.cells (cs8 l) t (0, 0)) := by
  obtain ⟨c, hc, hs, hv⟩ := h
  rw [hc]
  congr 2
  apply Array.ext'
  apply List.ext_getElem?
  intro i
  by_cases hi : i < 8
  · rw [Array.getElem?_toList, hv i hi]
    obtain rfl | rfl | rfl | rfl | rfl | rfl | rfl | rfl : i = 0 ∨ i = 1 ∨ i = 2 ∨ i = 3 ∨ i = 4 ∨ i = 5 ∨ i = 6 ∨ i = 7 := by omega
    all_goals rfl
  · rw [List.getElem?_eq_none (by simp; omega), List.getElem?_eq_none (by simp [cs8]; omega)]
/-- A store into the row. -/
theorem row8_set {w : World} {b t : Nat} {l l' : List Int} (h : w.rowIs b t 8 (c8 l)) (k : Nat) (x : Int) (he : ∀ j, j < 8 → (if j = k then Value.int .i64 x else c8 l j) = c8 l' j) : (w.setCell ⟨b, k, none⟩ (.int .i64 x)).rowIs b t 8 (c8 l') := (h.set k _).congr he

/-- What stands while an instruction is copied: the box, the answer's block, the copy. -/
structure Cp (w wr : World) (tb ti : TypeId) (l r o : List Int) : Prop where
  bel : Below w.heap.size w wr
  box : wr.rowIs w.heap.size tb 8 (c8 l)
  res : wr.rowIs (w.heap.size + 1) ti 8 (c8 r)
  out : wr.rowIs (w.heap.size + 2) ti 8 (c8 o)
section
variable {w wr w' : World} {tb ti : TypeId} {l r o : List Int}
theorem Cp.later (h : Cp w wr tb ti l r o) (hb : Below wr.heap.size wr w') : Cp w w' tb ti l r o :=
  ⟨h.bel.trans (hb.mono h.bel.size), h.box.of_block (hb.block _ h.box.lt), h.res.of_block (hb.block _ h.res.lt), h.out.of_block (hb.block _ h.out.lt)⟩
theorem Cp.set (h : Cp w wr tb ti l r o) (k : Nat) (x : Int) (o' : List Int) (he : ∀ j, j < 8 → (if j = k then Value.int .i64 x else c8 o j) = c8 o' j) : Cp w (wr.setCell ⟨w.heap.size + 2, k, none⟩ (.int .i64 x)) tb ti l r o' :=
  ⟨h.bel.setCell (by show w.heap.size ≤ w.heap.size + 2; omega) _, h.box.of_block (Below.heap_setCell _ _ _ _ (by show w.heap.size ≠ w.heap.size + 2; omega)), h.res.of_block (Below.heap_setCell _ _ _ _ (by show w.heap.size + 1 ≠ w.heap.size + 2; omega)), row8_set h.out k x he⟩
theorem Cp.setR (h : Cp w wr tb ti l r o) (k : Nat) (x : Int) (r' : List Int) (he : ∀ j, j < 8 → (if j = k then Value.int .i64 x else c8 r j) = c8 r' j) : Cp w (wr.setCell ⟨w.heap.size + 1, k, none⟩ (.int .i64 x)) tb ti l r' o :=
  ⟨h.bel.setCell (by show w.heap.size ≤ w.heap.size + 1; omega) _, h.box.of_block (Below.heap_setCell _ _ _ _ (by show w.heap.size ≠ w.heap.size + 1; omega)), row8_set h.res k x he, h.out.of_block (Below.heap_setCell _ _ _ _ (by show w.heap.size + 2 ≠ w.heap.size + 1; omega))⟩
end
theorem cp_new (w : World) (l o : List Int) (tb ti : TypeId) : Cp w (((w.alloc (Obj.cells (cs8 l) tb)).alloc (Obj.cells (cs8 [0, 0, 0, 0, 0, 0, 0, 0]) ti)).alloc (Obj.cells (cs8 o) ti)) tb ti l [0, 0, 0, 0, 0, 0, 0, 0] o := by
  have h1 : (w.alloc (Obj.cells (cs8 l) tb)).heap.size = w.heap.size + 1 := by simp
  have h2 : ((w.alloc (Obj.cells (cs8 l) tb)).alloc (Obj.cells (cs8 [0, 0, 0, 0, 0, 0, 0, 0]) ti)).heap.size = w.heap.size + 2 := by simp
  refine ⟨(((Below.refl _ _).alloc (Nat.le_refl _) _).alloc (by simp) _).alloc (by simp; omega) _, ((row8 w l tb).alloc _).alloc _, ?_, ?_⟩
  · have := (row8 (w.alloc (Obj.cells (cs8 l) tb)) [0, 0, 0, 0, 0, 0, 0, 0] ti).alloc (Obj.cells (cs8 o) ti)
    rw [h1] at this
    exact this
  · have := row8 ((w.alloc (Obj.cells (cs8 l) tb)).alloc (Obj.cells (cs8 [0, 0, 0, 0, 0, 0, 0, 0]) ti)) o ti
    rw [h2] at this
    exact this

set_option maxHeartbeats 2000000 in
set_option maxRecDepth 100000 in
theorem toIns_any (i : Is) (w : World) : Calls Tryd.prog 19 #[i.v] w fun e w' => e = .returned i.v ∧ Below w.heap.size w w' := by
  obtain ⟨op, ⟨sm, sr, sx⟩, ⟨dm, dr, dx⟩, n⟩ := i
  have C0 := hide (cp_new w [op, sm, sr, sx, dm, dr, dx, n] [op, 0, 0, 0, 0, 0, 0, 0] 42 27)
  unfold Is.v
  simp only
  go_enter Tryd.func19, Tryd.ntmps19
  go_wp2_with fail
  refine (toOpd_any ⟨sm, sr, sx⟩ _).mono ?_
  rintro e w1 ⟨rfl, hb1⟩
  have c1 := (unhide C0).later hb1
  clear hb1 C0
  have C1 := hide c1
  have a1 : w1.cell? ⟨w.heap.size, 4, none⟩ = some (.int .i64 dm) := c1.box.cell (i := 4) (by omega)
  have a2 : w1.cell? ⟨w.heap.size, 5, none⟩ = some (.int .i64 dr) := c1.box.cell (i := 5) (by omega)
  have a3 : w1.cell? ⟨w.heap.size, 6, none⟩ = some (.int .i64 dx) := c1.box.cell (i := 6) (by omega)
  have o1 : w1.cell? ⟨w.heap.size + 2, 1, none⟩ = some (.int .i64 0) := c1.out.cell (i := 1) (by omega)
  have o2 : w1.cell? ⟨w.heap.size + 2, 2, none⟩ = some (.int .i64 0) := c1.out.cell (i := 2) (by omega)
  have o3 : w1.cell? ⟨w.heap.size + 2, 3, none⟩ = some (.int .i64 0) := c1.out.cell (i := 3) (by omega)
  have f1 := c1.out.frozen 1
  have f2 := c1.out.frozen 2
  have f3 := c1.out.frozen 3
  clear c1
  unfold Od.v
  simp only
  go_wp2_with fail
  refine (toOpd_any ⟨dm, dr, dx⟩ _).mono ?_
  rintro e w2 ⟨rfl, hb2⟩
  have c2 := ((((unhide C1).set 1 sm [op, sm, 0, 0, 0, 0, 0, 0] (fun j hj => by rcases j with _ | _ | _ | _ | _ | _ | _ | _ | j <;> first | rfl | omega)).set 2 sr [op, sm, sr, 0, 0, 0, 0, 0] (fun j hj => by rcases j with _ | _ | _ | _ | _ | _ | _ | _ | j <;> first | rfl | omega)).set 3 sx [op, sm, sr, sx, 0, 0, 0, 0] (fun j hj => by rcases j with _ | _ | _ | _ | _ | _ | _ | _ | j <;> first | rfl | omega)).later hb2
  have C2 := hide c2
  have b7 : w2.cell? ⟨w.heap.size, 7, none⟩ = some (.int .i64 n) := c2.box.cell (i := 7) (by omega)
  have p0 : w2.cell? ⟨w.heap.size + 2, 0, none⟩ = some (.int .i64 op) := c2.out.cell (i := 0) (by omega)
  have g0 := c2.out.frozen 0
  have r0 : w2.cell? ⟨w.heap.size + 1, 0, none⟩ = some (.int .i64 0) := c2.res.cell (i := 0) (by omega)
  have k0 := c2.res.frozen 0
  have p1 : w2.cell? ⟨w.heap.size + 2, 1, none⟩ = some (.int .i64 sm) := c2.out.cell (i := 1) (by omega)
  have g1 := c2.out.frozen 1
  have r1 : w2.cell? ⟨w.heap.size + 1, 1, none⟩ = some (.int .i64 0) := c2.res.cell (i := 1) (by omega)
  have k1 := c2.res.frozen 1
  have p2 : w2.cell? ⟨w.heap.size + 2, 2, none⟩ = some (.int .i64 sr) := c2.out.cell (i := 2) (by omega)
  have g2 := c2.out.frozen 2
  have r2 : w2.cell? ⟨w.heap.size + 1, 2, none⟩ = some (.int .i64 0) := c2.res.cell (i := 2) (by omega)
  have k2 := c2.res.frozen 2
  have p3 : w2.cell? ⟨w.heap.size + 2, 3, none⟩ = some (.int .i64 sx) := c2.out.cell (i := 3) (by omega)
  have g3 := c2.out.frozen 3
  have r3 : w2.cell? ⟨w.heap.size + 1, 3, none⟩ = some (.int .i64 0) := c2.res.cell (i := 3) (by omega)
  have k3 := c2.res.frozen 3
  have p4 : w2.cell? ⟨w.heap.size + 2, 4, none⟩ = some (.int .i64 0) := c2.out.cell (i := 4) (by omega)
  have g4 := c2.out.frozen 4
  have r4 : w2.cell? ⟨w.heap.size + 1, 4, none⟩ = some (.int .i64 0) := c2.res.cell (i := 4) (by omega)
  have k4 := c2.res.frozen 4
  have p5 : w2.cell? ⟨w.heap.size + 2, 5, none⟩ = some (.int .i64 0) := c2.out.cell (i := 5) (by omega)
  have g5 := c2.out.frozen 5
  have r5 : w2.cell? ⟨w.heap.size + 1, 5, none⟩ = some (.int .i64 0) := c2.res.cell (i := 5) (by omega)
  have k5 := c2.res.frozen 5
  have p6 : w2.cell? ⟨w.heap.size + 2, 6, none⟩ = some (.int .i64 0) := c2.out.cell (i := 6) (by omega)
  have g6 := c2.out.frozen 6
  have r6 : w2.cell? ⟨w.heap.size + 1, 6, none⟩ = some (.int .i64 0) := c2.res.cell (i := 6) (by omega)
  have k6 := c2.res.frozen 6
  have p7 : w2.cell? ⟨w.heap.size + 2, 7, none⟩ = some (.int .i64 0) := c2.out.cell (i := 7) (by omega)
  have g7 := c2.out.frozen 7
  have r7 : w2.cell? ⟨w.heap.size + 1, 7, none⟩ = some (.int .i64 0) := c2.res.cell (i := 7) (by omega)
  have k7 := c2.res.frozen 7
  clear c2 hb2 C1 a1 a2 a3 o1 o2 o3 f1 f2 f3
  unfold Od.v
  simp only
  go_wp2
  have c3 := (((((((((((unhide C2).set 4 dm [op, sm, sr, sx, dm, 0, 0, 0] (fun j hj => by rcases j with _ | _ | _ | _ | _ | _ | _ | _ | j <;> first | rfl | omega)).set 5 dr [op, sm, sr, sx, dm, dr, 0, 0] (fun j hj => by rcases j with _ | _ | _ | _ | _ | _ | _ | _ | j <;> first | rfl | omega)).set 6 dx [op, sm, sr, sx, dm, dr, dx, 0] (fun j hj => by rcases j with _ | _ | _ | _ | _ | _ | _ | _ | j <;> first | rfl | omega)).set 7 n [op, sm, sr, sx, dm, dr, dx, n] (fun j hj => by rcases j with _ | _ | _ | _ | _ | _ | _ | _ | j <;> first | rfl | omega)).setR 0 op [op, 0, 0, 0, 0, 0, 0, 0] (fun j hj => by rcases j with _ | _ | _ | _ | _ | _ | _ | _ | j <;> first | rfl | omega)).setR 1 sm [op, sm, 0, 0, 0, 0, 0, 0] (fun j hj => by rcases j with _ | _ | _ | _ | _ | _ | _ | _ | j <;> first | rfl | omega)).setR 2 sr [op, sm, sr, 0, 0, 0, 0, 0] (fun j hj => by rcases j with _ | _ | _ | _ | _ | _ | _ | _ | j <;> first | rfl | omega)).setR 3 sx [op, sm, sr, sx, 0, 0, 0, 0] (fun j hj => by rcases j with _ | _ | _ | _ | _ | _ | _ | _ | j <;> first | rfl | omega)).setR 4 dm [op, sm, sr, sx, dm, 0, 0, 0] (fun j hj => by rcases j with _ | _ | _ | _ | _ | _ | _ | _ | j <;> first | rfl | omega)).setR 5 dr [op, sm, sr, sx, dm, dr, 0, 0] (fun j hj => by rcases j with _ | _ | _ | _ | _ | _ | _ | _ | j <;> first | rfl | omega)).setR 6 dx [op, sm, sr, sx, dm, dr, dx, 0] (fun j hj => by rcases j with _ | _ | _ | _ | _ | _ | _ | _ | j <;> first | rfl | omega)
  have c4 := c3.setR 7 n [op, sm, sr, sx, dm, dr, dx, n] (fun j hj => by rcases j with _ | _ | _ | _ | _ | _ | _ | _ | j <;> first | rfl | omega)
  refine bodyPost_ret (results_cell_row (P := Tryd.prog) rfl _ _ (w.heap.size + 1) 27 (cs8 [op, sm, sr, sx, dm, dr, dx, n]) (0, 0) _ rfl (row8_heap c4.res) Tryd.underlying27 rfl (by kernel_rfl)) rfl ?_
  exact ⟨rfl, c4.bel⟩
end Go.Proofs.YtomoakfemdjpbaaDoor
