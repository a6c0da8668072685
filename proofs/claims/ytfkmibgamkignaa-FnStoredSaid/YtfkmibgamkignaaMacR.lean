/- A new machine, by the model, where it can be made; over this seat's translation; conditions stand as hypotheses of each. -/
import Derived.Test.YtfkmibgamkignaaMade
namespace Go.Proofs.Ytfkmibgamkignaa
open Go.ChangeShapes Go.WideShapes Go.ChangeAt Go.RowKit
set_option linter.unusedVariables false
set_option maxRecDepth 8000
set_option linter.unusedSimpArgs false

theorem newB_parts {im : List Int} {a st : Int} {ins : List Int} (h : newB im a st ins = true) : inB a 0 510 = true ∧ a % 2 = 0 ∧ (im.length : Int) ≤ 256 - a / 2 ∧ wdB im = true ∧ inB st 0 65535 = true ∧ (ins.length : Int) ≤ 50 ∧ wdB ins = true := by
  unfold newB at h
  simpa using h

/-- What holds of the region in which a machine's parts are made, whatever part of it has come up. -/
structure Ir (w : World) (ins : Sl) (nn : List Int) (w' : World) (b0 b1 b2 b3 b4 b5 b6 b7 : Bool) (v9 v48 v49 v50 v51 v52 v53 : Value) : Prop where
  bel : Below (w.heap.size + 1) (w.alloc (.cells zMv.cs 28)) w'
  h0 : b0 = true → ∃ g, v48 = .slice (some ⟨g, 0, none⟩) 256 256 ∧ w.heap.size < g ∧ w'.heap[g]? = some (.cells (zA 256) 3 (0, 0))
  h1 : b1 = true → ∃ g, v49 = .slice (some ⟨g, 0, none⟩) 8 8 ∧ w.heap.size < g ∧ w'.heap[g]? = some (.cells (zA 8) 3 (0, 0))
  h2 : b2 = true → b4 = false → ∃ g, v50 = .slice (some ⟨g, 0, none⟩) 0 0 ∧ w.heap.size < g ∧ w'.heap[g]? = some (.cells #[] 3 (0, 0))
  h3 : b3 = true → v51 = .slice ins.a ins.n ins.c
  h4 : b4 = true → ∃ s : Sl, v52 = s.v ∧ OwnN w' (w.heap.size + 1) s.v nn
  x4 : b4 = true → ∀ g, v52.ownBlock = some g → (b0 = true → v48.ownBlock ≠ some g) ∧ (b1 = true → v49.ownBlock ≠ some g) ∧ (b6 = true → v9 ≠ .pointer (some ⟨g, 0, none⟩))
  h5 : b5 = true → v53 = .agg #[v48, v49, .bool false, .bool false, .bool false, .bool false, v52, .slice none 0 0, .int .i64 0]
  h6 : b6 = true → b7 = false → ∃ g, v9 = .pointer (some ⟨g, 0, none⟩) ∧ w.heap.size < g ∧ w'.heap[g]? = some (.cells zMv.cs 28 (0, 0))
  h7 : b7 = true → ∃ g, v9 = .pointer (some ⟨g, 0, none⟩) ∧ w.heap.size < g ∧ w'.heap[g]? = some (.cells #[v48, v49, .bool false, .bool false, .bool false, .bool false, v52, .slice none 0 0, .int .i64 0] 28 (0, 0))
section
variable {w w' : World} {ins : Sl} {nn : List Int} {b0 b1 b2 b3 b4 b5 b6 b7 : Bool} {v9 v48 v49 v50 v51 v52 v53 : Value}
theorem Ir.low (J : Ir w ins nn w' b0 b1 b2 b3 b4 b5 b6 b7 v9 v48 v49 v50 v51 v52 v53) : Below w.heap.size w w' := (below_new w (.cells zMv.cs 28)).trans (J.bel.mono (by omega))
theorem Ir.size (J : Ir w ins nn w' b0 b1 b2 b3 b4 b5 b6 b7 v9 v48 v49 v50 v51 v52 v53) : w.heap.size + 1 ≤ w'.heap.size := by have := J.bel.size; have := alloc_size w (.cells zMv.cs 28); omega
theorem row_al {w : World} {g : Nat} {o o' : Obj} (h : w.heap[g]? = some o) : (w.alloc o').heap[g]? = some o := row_lat h (below_new w o')
theorem ex_al {w : World} {p : Nat → Prop} {o o' : Obj} (h : ∃ g, p g ∧ w.heap[g]? = some o) : ∃ g, p g ∧ (w.alloc o').heap[g]? = some o := by
  obtain ⟨g, h1, h2⟩ := h
  exact ⟨g, h1, row_al h2⟩
theorem Ir.op0 (J : Ir w ins nn w' b0 b1 b2 b3 b4 false b6 false v9 v48 v49 v50 v51 v52 v53) : Ir w ins nn (w'.alloc (.cells (zA 256) 3)) true b1 b2 b3 b4 false b6 false v9 (.slice (some ⟨w'.heap.size, 0, none⟩) 256 256) v49 v50 v51 v52 v53 := by
  have sz := J.size
  refine ⟨J.bel.alloc sz _, fun _ => ⟨_, rfl, by omega, heap_alloc_last w' _⟩, fun h => ?_, fun h k => ?_, J.h3, fun h => ?_, fun h g e => ⟨fun _ => ?_, fun k => ((J.x4 h g e).2.1 k), fun k => ((J.x4 h g e).2.2 k)⟩, fun h => by (cases h), fun h k => ?_, fun h => by cases h⟩
  · obtain ⟨g, e, l, r⟩ := J.h1 h; exact ⟨g, e, l, row_al r⟩
  · obtain ⟨g, e, l, r⟩ := J.h2 h k; exact ⟨g, e, l, row_al r⟩
  · obtain ⟨s, e, l⟩ := J.h4 h; exact ⟨s, e, l.later (below_new _ _)⟩
  · obtain ⟨s, e', l⟩ := J.h4 h
    rw [e'] at e
    have := (l.lt e).2
    simp [Value.ownBlock]
    omega
  · obtain ⟨g, e, l, r⟩ := J.h6 h k; exact ⟨g, e, l, row_al r⟩
theorem Ir.op1 (J : Ir w ins nn w' b0 b1 b2 b3 b4 false b6 false v9 v48 v49 v50 v51 v52 v53) : Ir w ins nn (w'.alloc (.cells (zA 8) 3)) b0 true b2 b3 b4 false b6 false v9 v48 (.slice (some ⟨w'.heap.size, 0, none⟩) 8 8) v50 v51 v52 v53 := by
  have sz := J.size
  refine ⟨J.bel.alloc sz _, fun h => ?_, fun _ => ⟨_, rfl, by omega, heap_alloc_last w' _⟩, fun h k => ?_, J.h3, fun h => ?_, fun h g e => ⟨fun k => ((J.x4 h g e).1 k), fun _ => ?_, fun k => ((J.x4 h g e).2.2 k)⟩, fun h => by (cases h), fun h k => ?_, fun h => by cases h⟩
  · obtain ⟨g, e, l, r⟩ := J.h0 h; exact ⟨g, e, l, row_al r⟩
  · obtain ⟨g, e, l, r⟩ := J.h2 h k; exact ⟨g, e, l, row_al r⟩
  · obtain ⟨s, e, l⟩ := J.h4 h; exact ⟨s, e, l.later (below_new _ _)⟩
  · obtain ⟨s, e', l⟩ := J.h4 h
    rw [e'] at e
    have := (l.lt e).2
    simp [Value.ownBlock]
    omega
  · obtain ⟨g, e, l, r⟩ := J.h6 h k; exact ⟨g, e, l, row_al r⟩
theorem Ir.op2 (J : Ir w ins nn w' b0 b1 b2 b3 false false b6 false v9 v48 v49 v50 v51 v52 v53) : Ir w ins nn (w'.alloc (.cells #[] 3)) b0 b1 true b3 false false b6 false v9 v48 v49 (.slice (some ⟨w'.heap.size, 0, none⟩) 0 0) v51 v52 v53 := by
  have sz := J.size
  refine ⟨J.bel.alloc sz _, fun h => ?_, fun h => ?_, fun _ _ => ⟨_, rfl, by omega, heap_alloc_last w' _⟩, J.h3, fun h => by (cases h), fun h => by (cases h), fun h => by (cases h), fun h k => ?_, fun h => by cases h⟩
  · obtain ⟨g, e, l, r⟩ := J.h0 h; exact ⟨g, e, l, row_al r⟩
  · obtain ⟨g, e, l, r⟩ := J.h1 h; exact ⟨g, e, l, row_al r⟩
  · obtain ⟨g, e, l, r⟩ := J.h6 h k; exact ⟨g, e, l, row_al r⟩
theorem Ir.op3 (J : Ir w ins nn w' b0 b1 b2 b3 false b5 b6 b7 v9 v48 v49 v50 v51 v52 v53) : Ir w ins nn w' b0 b1 b2 true false b5 b6 b7 v9 v48 v49 v50 (.slice ins.a ins.n ins.c) v52 v53 :=
  { J with h3 := fun _ => rfl }
theorem Ir.op4 (J : Ir w ins nn w' b0 b1 true true false false b6 false v9 v48 v49 v50 v51 v52 v53) {g50 : Nat} (e50 : v50 = .slice (some ⟨g50, 0, none⟩) 0 0) (l50 : w.heap.size < g50) (r50 : w'.heap[g50]? = some (.cells #[] 3 (0, 0))) {s : Sl} {w2 : World}
    (ho : OwnN w2 (w.heap.size + 1) s.v nn) (hg : w'.grownBy w2 (some g50)) (hb : s.v.ownBlock = some g50 ∨ s.v.ownBlock = some w'.heap.size) : Ir w ins nn w2 b0 b1 true true true false b6 false v9 v48 v49 v50 v51 s.v v53 := by
  have keep : ∀ {g : Nat} {o : Obj}, w'.heap[g]? = some o → g ≠ g50 → w2.heap[g]? = some o := fun h hne => (hg.block _ (row_lt h) (by simpa using hne)).trans h
  have n0 : ∀ {g : Nat}, w'.heap[g]? = some (.cells (zA 256) 3 (0, 0)) → g ≠ g50 := fun h => ne_of_rows h r50 (ne_size (by rw [zA_size]; simp))
  have n1 : ∀ {g : Nat}, w'.heap[g]? = some (.cells (zA 8) 3 (0, 0)) → g ≠ g50 := fun h => ne_of_rows h r50 (ne_size (by rw [zA_size]; simp))
  have n6 : ∀ {g : Nat}, w'.heap[g]? = some (.cells zMv.cs 28 (0, 0)) → g ≠ g50 := fun h => ne_of_rows h r50 (ne_size (by rw [Mv.cs_size]; simp))
  have off : ∀ {g b : Nat} {o : Obj}, w'.heap[g]? = some o → g ≠ g50 → s.v.ownBlock = some b → g ≠ b := fun h hne e => by
    have := row_lt h
    rcases hb with hb | hb
    · rw [hb] at e; simp at e; omega
    · rw [hb] at e; simp at e; omega
  refine ⟨J.bel.grown hg J.size (fun k e => by cases e; omega), fun h => ?_, fun h => ?_, fun _ k => by (cases k), J.h3, fun _ => ⟨s, rfl, ho⟩, fun _ b e => ⟨fun h => ?_, fun h => ?_, fun h => ?_⟩, fun h => by (cases h), fun h k => ?_, fun h => by cases h⟩
  · obtain ⟨g, e, l, r⟩ := J.h0 h; exact ⟨g, e, l, keep r (n0 r)⟩
  · obtain ⟨g, e, l, r⟩ := J.h1 h; exact ⟨g, e, l, keep r (n1 r)⟩
  · obtain ⟨g, e', l, r⟩ := J.h0 h; rw [e']; simpa [Value.ownBlock] using off r (n0 r) e
  · obtain ⟨g, e', l, r⟩ := J.h1 h; rw [e']; simpa [Value.ownBlock] using off r (n1 r) e
  · obtain ⟨g, e', l, r⟩ := J.h6 h rfl; rw [e']; simpa using off r (n6 r) e
  · obtain ⟨g, e, l, r⟩ := J.h6 h k; exact ⟨g, e, l, keep r (n6 r)⟩
theorem Ir.op5 (J : Ir w ins nn w' b0 b1 b2 b3 b4 b5 b6 b7 v9 v48 v49 v50 v51 v52 v53) : Ir w ins nn w' b0 b1 b2 b3 b4 true b6 b7 v9 v48 v49 v50 v51 v52 (.agg #[v48, v49, .bool false, .bool false, .bool false, .bool false, v52, .slice none 0 0, .int .i64 0]) :=
  { J with h5 := fun _ => rfl }
theorem Ir.op6 (J : Ir w ins nn w' b0 b1 b2 b3 b4 b5 b6 false v9 v48 v49 v50 v51 v52 v53) : Ir w ins nn (w'.alloc (.cells zMv.cs 28)) b0 b1 b2 b3 b4 b5 true false (.pointer (some ⟨w'.heap.size, 0, none⟩)) v48 v49 v50 v51 v52 v53 := by
  have sz := J.size
  refine ⟨J.bel.alloc sz _, fun h => ?_, fun h => ?_, fun h k => ?_, J.h3, fun h => ?_, fun h g e => ⟨(J.x4 h g e).1, (J.x4 h g e).2.1, fun _ => ?_⟩, J.h5, fun _ _ => ⟨_, rfl, by omega, heap_alloc_last w' _⟩, fun h => by cases h⟩
  · obtain ⟨g, e, l, r⟩ := J.h0 h; exact ⟨g, e, l, row_al r⟩
  · obtain ⟨g, e, l, r⟩ := J.h1 h; exact ⟨g, e, l, row_al r⟩
  · obtain ⟨g, e, l, r⟩ := J.h2 h k; exact ⟨g, e, l, row_al r⟩
  · obtain ⟨s, e, l⟩ := J.h4 h; exact ⟨s, e, l.later (below_new _ _)⟩
  · obtain ⟨s, e', l⟩ := J.h4 h
    rw [e'] at e
    have := (l.lt e).2
    intro e2
    cases e2
    omega
/-- What stands at the end of it: a machine with its lists. -/
structure Ie (w w' : World) (nn : List Int) (v9 : Value) (g9 : Nat) (y : Mv) : Prop where
  bel : Below (w.heap.size + 1) (w.alloc (.cells zMv.cs 28)) w'
  p9 : v9 = .pointer (some ⟨g9, 0, none⟩)
  l9 : w.heap.size < g9
  r9 : w'.heap[g9]? = some (.cells y.cs 28 (0, 0))
  own : OwnM w' (w.heap.size + 1) y ⟨List.replicate 256 0, List.replicate 8 0, nn, []⟩
  fl : y.fl = zMv.fl
  ne : ∀ b, y.at b → b ≠ g9
  ym : ∃ gm, y.m = ⟨some ⟨gm, 0, none⟩, 256, 256⟩
  yr : ∃ gr, y.r = ⟨some ⟨gr, 0, none⟩, 8, 8⟩
theorem Ir.op7 (J : Ir w ins nn w' true true true true true true true false v9 v48 v49 v50 v51 v52 v53) : ∃ (g9 : Nat) (y : Mv), v9 = .pointer (some ⟨g9, 0, none⟩) ∧ v53 = .agg y.cs ∧ w'.heap[g9]? = some (.cells zMv.cs 28 (0, 0)) ∧ Ie w (w'.setRow g9 y.cs) nn v9 g9 y := by
  obtain ⟨g48, e48, l48, r48⟩ := J.h0 rfl
  obtain ⟨g49, e49, l49, r49⟩ := J.h1 rfl
  obtain ⟨s, e52, o52⟩ := J.h4 rfl
  obtain ⟨g9, e9, l9, r9⟩ := J.h6 rfl rfl
  have h53 := J.h5 rfl
  have x4 := J.x4 rfl
  subst e48 e49 e52 e9
  have n1 : g48 ≠ g49 := ne_of_rows r48 r49 (ne_size (by rw [zA_size, zA_size]; omega))
  have n2 : g48 ≠ g9 := ne_of_rows r48 r9 (ne_size (by rw [zA_size, Mv.cs_size]; omega))
  have n3 : g49 ≠ g9 := ne_of_rows r49 r9 (ne_size (by rw [zA_size, Mv.cs_size]; omega))
  have n4 : ∀ g, s.v.ownBlock = some g → g ≠ g48 ∧ g ≠ g49 ∧ g ≠ g9 := fun g e => by
    have := x4 g e
    simp [Value.ownBlock] at this
    omega
  refine ⟨g9, ⟨⟨some ⟨g48, 0, none⟩, 256, 256⟩, ⟨some ⟨g49, 0, none⟩, 8, 8⟩, false, false, false, false, s, ⟨none, 0, 0⟩, 0⟩, rfl, h53, r9, ?_⟩
  have k48 := (setRow_other w' g9 g48 (Mv.cs ⟨⟨some ⟨g48, 0, none⟩, 256, 256⟩, ⟨some ⟨g49, 0, none⟩, 8, 8⟩, false, false, false, false, s, ⟨none, 0, 0⟩, 0⟩) n2).trans r48
  have k49 := (setRow_other w' g9 g49 (Mv.cs ⟨⟨some ⟨g48, 0, none⟩, 256, 256⟩, ⟨some ⟨g49, 0, none⟩, 8, 8⟩, false, false, false, false, s, ⟨none, 0, 0⟩, 0⟩) n3).trans r49
  refine ⟨below_setRow J.bel (by omega) _, rfl, l9, setRow_heap w' g9 _ _ 28 _ r9, ⟨own_made (n := 256) k48 (by omega) (by omega), own_made (n := 8) k49 (by omega) (by omega), o52.keep fun g hv _ => setRow_other w' g9 g _ (n4 g hv).2.2, ownN_none _ _, ?_, ?_, fun g _ e => by (simp [Sl.v, Value.ownBlock] at e), ?_, fun g _ e => by (simp [Sl.v, Value.ownBlock] at e), fun g _ e => by (simp [Sl.v, Value.ownBlock] at e)⟩, rfl, ?_, ⟨g48, rfl⟩, ⟨g49, rfl⟩⟩
  · intro g e1 e2
    simp [Sl.v, Value.ownBlock] at e1 e2
    omega
  · intro g e1 e2
    have := n4 g e2
    simp [Sl.v, Value.ownBlock] at e1
    omega
  · intro g e1 e2
    have := n4 g e2
    simp [Sl.v, Value.ownBlock] at e1
    omega
  · intro b hb
    rcases hb with hb | hb | hb | hb
    · simp [Sl.v, Value.ownBlock] at hb; omega
    · simp [Sl.v, Value.ownBlock] at hb; omega
    · exact (n4 b hb).2.2
    · simp [Sl.v, Value.ownBlock] at hb
end
end Go.Proofs.Ytfkmibgamkignaa
