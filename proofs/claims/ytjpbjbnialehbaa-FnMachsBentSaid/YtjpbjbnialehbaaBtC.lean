/- Contracts over this seat's translation, laid together; conditions stand as hypotheses of each. -/
import Derived.Test.YtjpbjbnialehbaaBtA
import Derived.Test.YtjpbjbnialehbaaBtB
import Derived.Deep.RegionWith

namespace Go.Proofs.Ytjpbjbnialehbaa
open Go.ChangeShapes Go.WideShapes Go.ChangeAt Go.RowKit
set_option linter.unusedVariables false
set_option maxRecDepth 8000
set_option linter.unusedSimpArgs false
theorem newB_parts {im : List Int} {a st : Int} {ins : List Int} (h : newB im a st ins = true) : inB a 0 510 = true ∧ a % 2 = 0 ∧ (im.length : Int) ≤ 256 - a / 2 ∧ wdB im = true ∧ inB st 0 65535 = true ∧ (ins.length : Int) ≤ 50 ∧ wdB ins = true := by
  unfold newB at h
  simpa using h
/-- What holds of the region in which a machine's parts are made, whatever part of it has come up. -/
structure Ir (w : World) (ins : Sl) (nn : List Int) (w' : World) (b0 b1 b2 b3 b4 b5 b6 b7 : Bool) (v9 v48 v49 v50 v51 v52 v53 : Value) : Prop where
  bel : Below (w.heap.size + 1) (w.alloc (.cells zMv.cs 38)) w'
  h0 : b0 = true → ∃ g, v48 = .slice (some ⟨g, 0, none⟩) 256 256 ∧ w.heap.size < g ∧ w'.heap[g]? = some (.cells (zA 256) 3 (0, 0))
  h1 : b1 = true → ∃ g, v49 = .slice (some ⟨g, 0, none⟩) 8 8 ∧ w.heap.size < g ∧ w'.heap[g]? = some (.cells (zA 8) 3 (0, 0))
  h2 : b2 = true → b4 = false → ∃ g, v50 = .slice (some ⟨g, 0, none⟩) 0 0 ∧ w.heap.size < g ∧ w'.heap[g]? = some (.cells #[] 3 (0, 0))
  h3 : b3 = true → v51 = .slice ins.a ins.n ins.c
  h4 : b4 = true → ∃ s : Sl, v52 = s.v ∧ OwnN w' (w.heap.size + 1) s.v nn
  x4 : b4 = true → ∀ g, v52.ownBlock = some g → (b0 = true → v48.ownBlock ≠ some g) ∧ (b1 = true → v49.ownBlock ≠ some g) ∧ (b6 = true → v9 ≠ .pointer (some ⟨g, 0, none⟩))
  h5 : b5 = true → v53 = .agg #[v48, v49, .bool false, .bool false, .bool false, .bool false, v52, .slice none 0 0, .int .i64 0]
  h6 : b6 = true → b7 = false → ∃ g, v9 = .pointer (some ⟨g, 0, none⟩) ∧ w.heap.size < g ∧ w'.heap[g]? = some (.cells zMv.cs 38 (0, 0))
  h7 : b7 = true → ∃ g, v9 = .pointer (some ⟨g, 0, none⟩) ∧ w.heap.size < g ∧ w'.heap[g]? = some (.cells #[v48, v49, .bool false, .bool false, .bool false, .bool false, v52, .slice none 0 0, .int .i64 0] 38 (0, 0))
section
variable {w w' : World} {ins : Sl} {nn : List Int} {b0 b1 b2 b3 b4 b5 b6 b7 : Bool} {v9 v48 v49 v50 v51 v52 v53 : Value}
theorem Ir.low (J : Ir w ins nn w' b0 b1 b2 b3 b4 b5 b6 b7 v9 v48 v49 v50 v51 v52 v53) : Below w.heap.size w w' := (below_new w (.cells zMv.cs 38)).trans (J.bel.mono (by omega))
theorem Ir.size (J : Ir w ins nn w' b0 b1 b2 b3 b4 b5 b6 b7 v9 v48 v49 v50 v51 v52 v53) : w.heap.size + 1 ≤ w'.heap.size := by have := J.bel.size; have := alloc_size w (.cells zMv.cs 38); omega
theorem row_al {w : World} {g : Nat} {o o' : Obj} (h : w.heap[g]? = some o) : (w.alloc o').heap[g]? = some o := row_lat h (below_new w o')
theorem Ir.op0 (J : Ir w ins nn w' b0 b1 b2 b3 b4 false b6 false v9 v48 v49 v50 v51 v52 v53) : Ir w ins nn (w'.alloc (.cells (zA 256) 3)) true b1 b2 b3 b4 false b6 false v9 (.slice (some ⟨w'.heap.size, 0, none⟩) 256 256) v49 v50 v51 v52 v53 := by
  have sz := J.size
  refine ⟨J.bel.alloc sz _, fun _ => ⟨_, rfl, by omega, heap_alloc_last w' _⟩, fun h => ?_, fun h k => ?_, J.h3, fun h => ?_, fun h g e => ⟨fun _ => ?_, fun k => ((J.x4 h g e).2.1 k), fun k => ((J.x4 h g e).2.2 k)⟩, fun h => by (cases h), fun h k => ?_, fun h => by cases h⟩
  · obtain ⟨g, e, l, r⟩ := J.h1 h; exact ⟨g, e, l, row_al r⟩
  · obtain ⟨g, e, l, r⟩ := J.h2 h k; exact ⟨g, e, l, row_al r⟩
  · obtain ⟨s, e, l⟩ := J.h4 h; exact ⟨s, e, l.later (below_new _ _)⟩
  · obtain ⟨s, e', l⟩ := J.h4 h
    rw [e'] at e
    have := (l.lt e).2
    simp [Value.ownBlock]
    omega
  · obtain ⟨g, e, l, r⟩ := J.h6 h k; exact ⟨g, e, l, row_al r⟩
theorem Ir.op1 (J : Ir w ins nn w' b0 b1 b2 b3 b4 false b6 false v9 v48 v49 v50 v51 v52 v53) : Ir w ins nn (w'.alloc (.cells (zA 8) 3)) b0 true b2 b3 b4 false b6 false v9 v48 (.slice (some ⟨w'.heap.size, 0, none⟩) 8 8) v50 v51 v52 v53 := by
  have sz := J.size
  refine ⟨J.bel.alloc sz _, fun h => ?_, fun _ => ⟨_, rfl, by omega, heap_alloc_last w' _⟩, fun h k => ?_, J.h3, fun h => ?_, fun h g e => ⟨fun k => ((J.x4 h g e).1 k), fun _ => ?_, fun k => ((J.x4 h g e).2.2 k)⟩, fun h => by (cases h), fun h k => ?_, fun h => by cases h⟩
  · obtain ⟨g, e, l, r⟩ := J.h0 h; exact ⟨g, e, l, row_al r⟩
  · obtain ⟨g, e, l, r⟩ := J.h2 h k; exact ⟨g, e, l, row_al r⟩
  · obtain ⟨s, e, l⟩ := J.h4 h; exact ⟨s, e, l.later (below_new _ _)⟩
  · obtain ⟨s, e', l⟩ := J.h4 h
    rw [e'] at e
    have := (l.lt e).2
    simp [Value.ownBlock]
    omega
  · obtain ⟨g, e, l, r⟩ := J.h6 h k; exact ⟨g, e, l, row_al r⟩
theorem Ir.op2 (J : Ir w ins nn w' b0 b1 b2 b3 false false b6 false v9 v48 v49 v50 v51 v52 v53) : Ir w ins nn (w'.alloc (.cells #[] 3)) b0 b1 true b3 false false b6 false v9 v48 v49 (.slice (some ⟨w'.heap.size, 0, none⟩) 0 0) v51 v52 v53 := by
  have sz := J.size
  refine ⟨J.bel.alloc sz _, fun h => ?_, fun h => ?_, fun _ _ => ⟨_, rfl, by omega, heap_alloc_last w' _⟩, J.h3, fun h => by (cases h), fun h => by (cases h), fun h => by (cases h), fun h k => ?_, fun h => by cases h⟩
  · obtain ⟨g, e, l, r⟩ := J.h0 h; exact ⟨g, e, l, row_al r⟩
  · obtain ⟨g, e, l, r⟩ := J.h1 h; exact ⟨g, e, l, row_al r⟩
  · obtain ⟨g, e, l, r⟩ := J.h6 h k; exact ⟨g, e, l, row_al r⟩
theorem Ir.op3 (J : Ir w ins nn w' b0 b1 b2 b3 false b5 b6 b7 v9 v48 v49 v50 v51 v52 v53) : Ir w ins nn w' b0 b1 b2 true false b5 b6 b7 v9 v48 v49 v50 (.slice ins.a ins.n ins.c) v52 v53 :=
  { J with h3 := fun _ => rfl }
theorem Ir.op4 (J : Ir w ins nn w' b0 b1 true true false false b6 false v9 v48 v49 v50 v51 v52 v53) {g50 : Nat} (e50 : v50 = .slice (some ⟨g50, 0, none⟩) 0 0) (l50 : w.heap.size < g50) (r50 : w'.heap[g50]? = some (.cells #[] 3 (0, 0))) {s : Sl} {w2 : World}
    (ho : OwnN w2 (w.heap.size + 1) s.v nn) (hg : w'.grownBy w2 (some g50)) (hb : s.v.ownBlock = some g50 ∨ s.v.ownBlock = some w'.heap.size) : Ir w ins nn w2 b0 b1 true true true false b6 false v9 v48 v49 v50 v51 s.v v53 := by
  have keep : ∀ {g : Nat} {o : Obj}, w'.heap[g]? = some o → g ≠ g50 → w2.heap[g]? = some o := fun h hne => (hg.block _ (row_lt h) (by simpa using hne)).trans h
  have n0 : ∀ {g : Nat}, w'.heap[g]? = some (.cells (zA 256) 3 (0, 0)) → g ≠ g50 := fun h => ne_of_rows h r50 (ne_size (by rw [zA_size]; simp))
  have n1 : ∀ {g : Nat}, w'.heap[g]? = some (.cells (zA 8) 3 (0, 0)) → g ≠ g50 := fun h => ne_of_rows h r50 (ne_size (by rw [zA_size]; simp))
  have n6 : ∀ {g : Nat}, w'.heap[g]? = some (.cells zMv.cs 38 (0, 0)) → g ≠ g50 := fun h => ne_of_rows h r50 (ne_size (by rw [Mv.cs_size]; simp))
  have off : ∀ {g b : Nat} {o : Obj}, w'.heap[g]? = some o → g ≠ g50 → s.v.ownBlock = some b → g ≠ b := fun h hne e => by
    have := row_lt h
    rcases hb with hb | hb
    · rw [hb] at e; simp at e; omega
    · rw [hb] at e; simp at e; omega
  refine ⟨J.bel.grown hg J.size (fun k e => by cases e; omega), fun h => ?_, fun h => ?_, fun _ k => by (cases k), J.h3, fun _ => ⟨s, rfl, ho⟩, fun _ b e => ⟨fun h => ?_, fun h => ?_, fun h => ?_⟩, fun h => by (cases h), fun h k => ?_, fun h => by cases h⟩
  · obtain ⟨g, e, l, r⟩ := J.h0 h; exact ⟨g, e, l, keep r (n0 r)⟩
  · obtain ⟨g, e, l, r⟩ := J.h1 h; exact ⟨g, e, l, keep r (n1 r)⟩
  · obtain ⟨g, e', l, r⟩ := J.h0 h; rw [e']; simpa [Value.ownBlock] using off r (n0 r) e
  · obtain ⟨g, e', l, r⟩ := J.h1 h; rw [e']; simpa [Value.ownBlock] using off r (n1 r) e
  · obtain ⟨g, e', l, r⟩ := J.h6 h rfl; rw [e']; simpa using off r (n6 r) e
  · obtain ⟨g, e, l, r⟩ := J.h6 h k; exact ⟨g, e, l, keep r (n6 r)⟩
theorem Ir.op5 (J : Ir w ins nn w' b0 b1 b2 b3 b4 b5 b6 b7 v9 v48 v49 v50 v51 v52 v53) : Ir w ins nn w' b0 b1 b2 b3 b4 true b6 b7 v9 v48 v49 v50 v51 v52 (.agg #[v48, v49, .bool false, .bool false, .bool false, .bool false, v52, .slice none 0 0, .int .i64 0]) :=
  { J with h5 := fun _ => rfl }
theorem Ir.op6 (J : Ir w ins nn w' b0 b1 b2 b3 b4 b5 b6 false v9 v48 v49 v50 v51 v52 v53) : Ir w ins nn (w'.alloc (.cells zMv.cs 38)) b0 b1 b2 b3 b4 b5 true false (.pointer (some ⟨w'.heap.size, 0, none⟩)) v48 v49 v50 v51 v52 v53 := by
  have sz := J.size
  refine ⟨J.bel.alloc sz _, fun h => ?_, fun h => ?_, fun h k => ?_, J.h3, fun h => ?_, fun h g e => ⟨(J.x4 h g e).1, (J.x4 h g e).2.1, fun _ => ?_⟩, J.h5, fun _ _ => ⟨_, rfl, by omega, heap_alloc_last w' _⟩, fun h => by cases h⟩
  · obtain ⟨g, e, l, r⟩ := J.h0 h; exact ⟨g, e, l, row_al r⟩
  · obtain ⟨g, e, l, r⟩ := J.h1 h; exact ⟨g, e, l, row_al r⟩
  · obtain ⟨g, e, l, r⟩ := J.h2 h k; exact ⟨g, e, l, row_al r⟩
  · obtain ⟨s, e, l⟩ := J.h4 h; exact ⟨s, e, l.later (below_new _ _)⟩
  · obtain ⟨s, e', l⟩ := J.h4 h
    rw [e'] at e
    have := (l.lt e).2
    intro e2
    cases e2
    omega
/-- What stands at the end of it: a machine with its lists. -/
structure Ie (w w' : World) (nn : List Int) (v9 : Value) (g9 : Nat) (y : Mv) : Prop where
  bel : Below (w.heap.size + 1) (w.alloc (.cells zMv.cs 38)) w'
  p9 : v9 = .pointer (some ⟨g9, 0, none⟩)
  l9 : w.heap.size < g9
  r9 : w'.heap[g9]? = some (.cells y.cs 38 (0, 0))
  own : OwnM w' (w.heap.size + 1) y ⟨List.replicate 256 0, List.replicate 8 0, nn, []⟩
  fl : y.fl = zMv.fl
  ne : ∀ b, y.at b → b ≠ g9
  ym : ∃ gm, y.m = ⟨some ⟨gm, 0, none⟩, 256, 256⟩
  yr : ∃ gr, y.r = ⟨some ⟨gr, 0, none⟩, 8, 8⟩
theorem Ir.op7 (J : Ir w ins nn w' true true true true true true true false v9 v48 v49 v50 v51 v52 v53) : ∃ (g9 : Nat) (y : Mv), v9 = .pointer (some ⟨g9, 0, none⟩) ∧ v53 = .agg y.cs ∧ w'.heap[g9]? = some (.cells zMv.cs 38 (0, 0)) ∧ Ie w (w'.setRow g9 y.cs) nn v9 g9 y := by
  obtain ⟨g48, e48, l48, r48⟩ := J.h0 rfl
  obtain ⟨g49, e49, l49, r49⟩ := J.h1 rfl
  obtain ⟨s, e52, o52⟩ := J.h4 rfl
  obtain ⟨g9, e9, l9, r9⟩ := J.h6 rfl rfl
  have h53 := J.h5 rfl
  have x4 := J.x4 rfl
  subst e48 e49 e52 e9
  have n1 : g48 ≠ g49 := ne_of_rows r48 r49 (ne_size (by rw [zA_size, zA_size]; omega))
  have n2 : g48 ≠ g9 := ne_of_rows r48 r9 (ne_size (by rw [zA_size, Mv.cs_size]; omega))
  have n3 : g49 ≠ g9 := ne_of_rows r49 r9 (ne_size (by rw [zA_size, Mv.cs_size]; omega))
  have n4 : ∀ g, s.v.ownBlock = some g → g ≠ g48 ∧ g ≠ g49 ∧ g ≠ g9 := fun g e => by
    have := x4 g e
    simp [Value.ownBlock] at this
    omega
  refine ⟨g9, ⟨⟨some ⟨g48, 0, none⟩, 256, 256⟩, ⟨some ⟨g49, 0, none⟩, 8, 8⟩, false, false, false, false, s, ⟨none, 0, 0⟩, 0⟩, rfl, h53, r9, ?_⟩
  have k48 := (setRow_other w' g9 g48 (Mv.cs ⟨⟨some ⟨g48, 0, none⟩, 256, 256⟩, ⟨some ⟨g49, 0, none⟩, 8, 8⟩, false, false, false, false, s, ⟨none, 0, 0⟩, 0⟩) n2).trans r48
  have k49 := (setRow_other w' g9 g49 (Mv.cs ⟨⟨some ⟨g48, 0, none⟩, 256, 256⟩, ⟨some ⟨g49, 0, none⟩, 8, 8⟩, false, false, false, false, s, ⟨none, 0, 0⟩, 0⟩) n3).trans r49
  refine ⟨below_setRow J.bel (by omega) _, rfl, l9, setRow_heap w' g9 _ _ 38 _ r9, ⟨own_made (n := 256) k48 (by omega) (by omega), own_made (n := 8) k49 (by omega) (by omega), o52.keep fun g hv _ => setRow_other w' g9 g _ (n4 g hv).2.2, ownN_none _ _, ?_, ?_, fun g _ e => by (simp [Sl.v, Value.ownBlock] at e), ?_, fun g _ e => by (simp [Sl.v, Value.ownBlock] at e), fun g _ e => by (simp [Sl.v, Value.ownBlock] at e)⟩, rfl, ?_, ⟨g48, rfl⟩, ⟨g49, rfl⟩⟩
  · intro g e1 e2
    simp [Sl.v, Value.ownBlock] at e1 e2
    omega
  · intro g e1 e2
    have := n4 g e2
    simp [Sl.v, Value.ownBlock] at e1
    omega
  · intro g e1 e2
    have := n4 g e2
    simp [Sl.v, Value.ownBlock] at e1
    omega
  · intro b hb
    rcases hb with hb | hb | hb | hb
    · simp [Sl.v, Value.ownBlock] at hb; omega
    · simp [Sl.v, Value.ownBlock] at hb; omega
    · exact (n4 b hb).2.2
    · simp [Sl.v, Value.ownBlock] at hb
end
end Go.Proofs.Ytjpbjbnialehbaa

namespace Go.Proofs.Ytjpbjbnialehbaa
open Go.ChangeShapes Go.WideShapes Go.ChangeAt Go.RowKit
set_option linter.unusedVariables false
set_option maxRecDepth 8000
set_option linter.unusedSimpArgs false
/-- What has come up, by what waits for what. -/
structure Dp (f : Nat → Bool) : Prop where
  d4 : f 4 = true → f 2 = true ∧ f 3 = true
  d5 : f 5 = true → f 0 = true ∧ f 1 = true ∧ f 4 = true
  d7 : f 7 = true → f 0 = true ∧ f 1 = true ∧ f 2 = true ∧ f 3 = true ∧ f 4 = true ∧ f 5 = true ∧ f 6 = true
theorem no {p : Prop} (h : false = true) : p := by cases h
theorem dp_new : Dp (fun _ => false) := ⟨fun h => no h, fun h => no h, fun h => no h⟩
theorem f_no {b c : Bool} (h : b = true → c = true) (hc : c = false) : b = false := by
  cases hb : b
  · rfl
  · rw [h hb] at hc; cases hc
theorem built28 (s0 s1 s2 : Sl) : Try.prog.built 38 [(0, s0.v), (1, s1.v), (6, s2.v)] = some #[s0.v, s1.v, .bool false, .bool false, .bool false, .bool false, s2.v, .slice none 0 0, .int .i64 0] := by kernel_rfl
theorem wp_build28 {o : Oper} {a : Act} {w : World} {K : Act → World → Prop} {Q : Exit → Act → World → Prop} (x0 x1 x2 : Operand) (ho : o.op = .build 38 #[(0, x0), (1, x1), (6, x2)]) (s0 s1 s2 : Sl) (h0 : a.eval x0 = s0.v) (h1 : a.eval x1 = s1.v) (h2 : a.eval x2 = s2.v)
    (h : K (a.put o.dst (.agg #[s0.v, s1.v, .bool false, .bool false, .bool false, .bool false, s2.v, .slice none 0 0, .int .i64 0])) w) : o.wp Try.prog a w K Q := by
  have e : Try.prog.built 38 ((#[(0, x0), (1, x1), (6, x2)] : Array (Nat × Operand)).map fun (i, x) => (i, a.eval x)).toList = some #[s0.v, s1.v, .bool false, .bool false, .bool false, .bool false, s2.v, .slice none 0 0, .int .i64 0] := by
    simp only [List.map_toArray, List.map_cons, List.map_nil, h0, h1, h2]
    exact built28 s0 s1 s2
  refine wp_build 38 _ ho (by rw [e]; rfl) ?_
  rw [e]
  exact h
theorem over_nil (ns : List Int) (k : Nat) : over ns k [] = ns := by simp [over]
theorem over_len (ns im : List Int) (k : Nat) (h : k + im.length ≤ ns.length) : (over ns k im).length = ns.length := by
  unfold over
  simp only [List.length_append, List.length_take, List.length_drop]
  omega
theorem over_set (ns im : List Int) (k j : Nat) (hj : j < im.length) (h : k + im.length ≤ ns.length) : (over ns k (im.take j)).set (k + j) (nAt im j) = over ns k (im.take (j + 1)) := by
  have e1 : (im.take j).length = j := by rw [List.length_take]; omega
  have e2 : (im.take (j + 1)).length = j + 1 := by rw [List.length_take]; omega
  have e3 : (ns.take k).length = k := by rw [List.length_take]; omega
  unfold over
  rw [e1, e2, take_nAt im j hj]
  have e4 : ns.drop (k + j) = ns[k + j]'(by omega) :: ns.drop (k + (j + 1)) := List.drop_eq_getElem_cons (by omega)
  rw [e4, List.set_append_right _ _ (by omega), e3, List.set_append_right _ _ (by omega), e1, show k + j - k - j = 0 by omega, List.set_cons_zero, List.append_assoc]
  rfl
/-- While the image is laid into a new machine. -/
structure Nl (w wr : World) (y : Mv) (g9 : Nat) (d : Md) : Prop where
  bel : Below (w.heap.size + 1) (w.alloc (.cells zMv.cs 38)) wr
  r9 : wr.heap[g9]? = some (.cells y.cs 38 (0, 0))
  own : OwnM wr (w.heap.size + 1) y d
theorem Nl.low {w wr : World} {y : Mv} {g9 : Nat} {d : Md} (h : Nl w wr y g9 d) : Below w.heap.size w wr := (below_new w (.cells zMv.cs 38)).trans (h.bel.mono (by omega))
theorem Nl.re {w wr : World} {y : Mv} {g9 : Nat} {d : Md} (h : Nl w wr y g9 d) : wr.heap[w.heap.size]? = some (.cells zMv.cs 38 (0, 0)) := (h.bel.block w.heap.size (by omega)).trans (heap_alloc_last w _)
theorem Nl.later {w wr w' : World} {y : Mv} {g9 : Nat} {d : Md} (h : Nl w wr y g9 d) (hb : Below wr.heap.size wr w') : Nl w w' y g9 d :=
  ⟨h.bel.trans (hb.mono (by have := h.bel.size; have := alloc_size w (.cells zMv.cs 38); omega)), row_lat h.r9 hb, h.own.later hb⟩
theorem Nl.setM {w wr : World} {y : Mv} {g9 gm n c : Nat} {d : Md} (h : Nl w wr y g9 d) (hm : y.m = ⟨some ⟨gm, 0, none⟩, n, c⟩) (hne : ∀ b, y.at b → b ≠ g9) (k : Nat) (v : Int) (hk : k < d.m.length) : Nl w (wr.setCell ⟨gm, k, none⟩ (.int .i64 v)) y g9 ⟨d.m.set k v, d.r, d.i, d.o⟩ := by
  have e : y.m.v = .slice (some ⟨gm, 0, none⟩) n c := by rw [hm]; rfl
  have o := h.own.m
  rw [e] at o
  have s := o.set k v hk
  have hat : y.at gm := .inl (by rw [e]; rfl)
  have := h.own.lo hat
  exact ⟨h.bel.setCell (p := ⟨gm, k, none⟩) this.1 _, row_keep h.r9 (fun e => hne gm hat e.symm), h.own.putM (by rw [e]; exact s.2) (by rw [e]; exact s.1)⟩
theorem OwnM.putR {w w' : World} {B : Nat} {x : Mv} {d : Md} {ns : List Int} (h : OwnM w B x d) (hg : w.grownBy w' x.r.v.ownBlock) (hn : OwnN w' B x.r.v ns) : OwnM w' B x ⟨d.m, ns, d.i, d.o⟩ :=
  { h with
    r := hn
    m := h.m.keep fun q hv hq => hg.block q hq (fun e => h.mr q hv e.symm)
    i := h.i.keep fun q hv hq => hg.block q hq (fun e => h.ri q e.symm hv)
    o := h.o.keep fun q hv hq => hg.block q hq (fun e => h.ro q e.symm hv) }
theorem Nl.setR {w wr : World} {y : Mv} {g9 gr n c : Nat} {d : Md} (h : Nl w wr y g9 d) (hm : y.r = ⟨some ⟨gr, 0, none⟩, n, c⟩) (hne : ∀ b, y.at b → b ≠ g9) (k : Nat) (v : Int) (hk : k < d.r.length) : Nl w (wr.setCell ⟨gr, k, none⟩ (.int .i64 v)) y g9 ⟨d.m, d.r.set k v, d.i, d.o⟩ := by
  have e : y.r.v = .slice (some ⟨gr, 0, none⟩) n c := by rw [hm]; rfl
  have o := h.own.r
  rw [e] at o
  have s := o.set k v hk
  have hat : y.at gr := .inr (.inl (by rw [e]; rfl))
  have := h.own.lo hat
  exact ⟨h.bel.setCell (p := ⟨gr, k, none⟩) this.1 _, row_keep h.r9 (fun e => hne gr hat e.symm), h.own.putR (by rw [e]; exact s.2) (by rw [e]; exact s.1)⟩
theorem Nl.cellM {w wr : World} {y : Mv} {g9 gm n c : Nat} {d : Md} (h : Nl w wr y g9 d) (hm : y.m = ⟨some ⟨gm, 0, none⟩, n, c⟩) (k : Nat) (hk : k < d.m.length) : wr.cell? ⟨gm, k, none⟩ = some (.int .i64 (nAt d.m k)) ∧ wr.frozen? ⟨gm, k, none⟩ = false := by
  have o := h.own.m
  rw [hm] at o
  exact OwnN.cellAt (b := gm) (n := n) (cap := c) o k hk
theorem Nl.cellR {w wr : World} {y : Mv} {g9 gr n c : Nat} {d : Md} (h : Nl w wr y g9 d) (hm : y.r = ⟨some ⟨gr, 0, none⟩, n, c⟩) (k : Nat) (hk : k < d.r.length) : wr.cell? ⟨gr, k, none⟩ = some (.int .i64 (nAt d.r k)) ∧ wr.frozen? ⟨gr, k, none⟩ = false := by
  have o := h.own.r
  rw [hm] at o
  exact OwnN.cellAt (b := gr) (n := n) (cap := c) o k hk
def Ji (w : World) (ins : Sl) (nn : List Int) (w' : World) (f : Nat → Bool) (v9 v48 v49 v50 v51 v52 v53 : Value) : Prop :=
  Dp f ∧ (f 7 = false → Ir w ins nn w' (f 0) (f 1) (f 2) (f 3) (f 4) (f 5) (f 6) (f 7) v9 v48 v49 v50 v51 v52 v53) ∧ (f 7 = true → ∃ (g9 : Nat) (y : Mv), Ie w w' nn v9 g9 y)
section
variable {w w' : World} {ins : Sl} {nn : List Int} {f : Nat → Bool} {v9 v48 v49 v50 v51 v52 v53 : Value}
theorem ji_new (h : Below (w.heap.size + 1) (w.alloc (.cells zMv.cs 38)) w') : Ji w ins nn w' (fun _ => false) v9 v48 v49 v50 v51 v52 v53 :=
  ⟨dp_new, fun _ => ⟨h, fun h => no h, fun h => no h, fun h => no h, fun h => no h, fun h => no h, fun h => no h, fun h => no h, fun h => no h, fun h => no h⟩, fun h => no h⟩
theorem Ji.op0 (J : Ji w ins nn w' f v9 v48 v49 v50 v51 v52 v53) (hf : f 0 = false) : Ji w ins nn (w'.alloc (.cells (zA 256) 3)) (fun j => if j = 0 then true else f j) v9 (.slice (some ⟨w'.heap.size, 0, none⟩) 256 256) v49 v50 v51 v52 v53 := by
  have f5 := f_no (fun h => (J.1.d5 h).1) hf
  have f7 := f_no (fun h => (J.1.d7 h).1) hf
  have i := J.2.1 f7
  rw [f5, f7] at i
  refine ⟨⟨J.1.d4, fun h => ⟨rfl, (J.1.d5 h).2⟩, fun h => ⟨rfl, (J.1.d7 h).2⟩⟩, fun _ => ?_, fun h => no (f7.symm.trans h)⟩
  have k := i.op0
  show Ir w ins nn _ true (f 1) (f 2) (f 3) (f 4) (f 5) (f 6) (f 7) _ _ _ _ _ _ _
  rw [f5, f7]
  exact k
theorem Ji.op1 (J : Ji w ins nn w' f v9 v48 v49 v50 v51 v52 v53) (hf : f 1 = false) : Ji w ins nn (w'.alloc (.cells (zA 8) 3)) (fun j => if j = 1 then true else f j) v9 v48 (.slice (some ⟨w'.heap.size, 0, none⟩) 8 8) v50 v51 v52 v53 := by
  have f5 := f_no (fun h => (J.1.d5 h).2.1) hf
  have f7 := f_no (fun h => (J.1.d7 h).2.1) hf
  have i := J.2.1 f7
  rw [f5, f7] at i
  refine ⟨⟨J.1.d4, fun h => ⟨(J.1.d5 h).1, rfl, (J.1.d5 h).2.2⟩, fun h => ⟨(J.1.d7 h).1, rfl, (J.1.d7 h).2.2⟩⟩, fun _ => ?_, fun h => no (f7.symm.trans h)⟩
  have k := i.op1
  show Ir w ins nn _ (f 0) true (f 2) (f 3) (f 4) (f 5) (f 6) (f 7) _ _ _ _ _ _ _
  rw [f5, f7]
  exact k
theorem Ji.op2 (J : Ji w ins nn w' f v9 v48 v49 v50 v51 v52 v53) (hf : f 2 = false) : Ji w ins nn (w'.alloc (.cells #[] 3)) (fun j => if j = 2 then true else f j) v9 v48 v49 (.slice (some ⟨w'.heap.size, 0, none⟩) 0 0) v51 v52 v53 := by
  have f4 := f_no (fun h => (J.1.d4 h).1) hf
  have f5 := f_no (fun h => (J.1.d5 h).2.2) f4
  have f7 := f_no (fun h => (J.1.d7 h).2.2.1) hf
  have i := J.2.1 f7
  rw [f4, f5, f7] at i
  refine ⟨⟨fun h => ⟨rfl, (J.1.d4 h).2⟩, J.1.d5, fun h => ⟨(J.1.d7 h).1, (J.1.d7 h).2.1, rfl, (J.1.d7 h).2.2.2⟩⟩, fun _ => ?_, fun h => no (f7.symm.trans h)⟩
  have k := i.op2
  show Ir w ins nn _ (f 0) (f 1) true (f 3) (f 4) (f 5) (f 6) (f 7) _ _ _ _ _ _ _
  rw [f4, f5, f7]
  exact k
theorem Ji.op3 (J : Ji w ins nn w' f v9 v48 v49 v50 v51 v52 v53) (hf : f 3 = false) : Ji w ins nn w' (fun j => if j = 3 then true else f j) v9 v48 v49 v50 (.slice ins.a ins.n ins.c) v52 v53 := by
  have f4 := f_no (fun h => (J.1.d4 h).2) hf
  have f7 := f_no (fun h => (J.1.d7 h).2.2.2.1) hf
  have i := J.2.1 f7
  rw [f4] at i
  refine ⟨⟨fun h => ⟨(J.1.d4 h).1, rfl⟩, J.1.d5, fun h => ⟨(J.1.d7 h).1, (J.1.d7 h).2.1, (J.1.d7 h).2.2.1, rfl, (J.1.d7 h).2.2.2.2⟩⟩, fun _ => ?_, fun h => no (f7.symm.trans h)⟩
  have k := i.op3
  show Ir w ins nn _ (f 0) (f 1) (f 2) true (f 4) (f 5) (f 6) (f 7) _ _ _ _ _ _ _
  rw [f4]
  exact k
theorem Ji.at4 (J : Ji w ins nn w' f v9 v48 v49 v50 v51 v52 v53) (hf : f 4 = false) (h2 : f 2 = true) (h3 : f 3 = true) : v51 = .slice ins.a ins.n ins.c ∧ w.heap.size + 1 ≤ w'.heap.size ∧ Below w.heap.size w w' ∧ ∃ g, v50 = .slice (some ⟨g, 0, none⟩) 0 0 ∧ OwnN w' (w.heap.size + 1) v50 [] ∧
    ∀ (v : Value) (w2 : World), OwnN w2 (w.heap.size + 1) v nn → w'.grownBy w2 (some g) → (v.ownBlock = some g ∨ v.ownBlock = some w'.heap.size) → Ji w ins nn w2 (fun j => if j = 4 then true else f j) v9 v48 v49 v50 v51 v v53 := by
  have f5 := f_no (fun h => (J.1.d5 h).2.2) hf
  have f7 := f_no (fun h => (J.1.d7 h).2.2.2.2.1) hf
  have i := J.2.1 f7
  rw [hf, f5, f7, h2, h3] at i
  obtain ⟨g, e, l, r⟩ := i.h2 rfl rfl
  refine ⟨i.h3 rfl, i.size, i.low, g, e, by rw [e]; exact own_bare r (by omega), fun v w2 ho hg hb => ?_⟩
  refine ⟨⟨fun _ => ⟨h2, h3⟩, fun h => ⟨(J.1.d5 h).1, (J.1.d5 h).2.1, rfl⟩, fun h => no (f7.symm.trans h)⟩, fun _ => ?_, fun h => no (f7.symm.trans h)⟩
  obtain ⟨a, c, ev, _⟩ := ho.rd
  have ev' : v = (Sl.mk a nn.length c).v := ev
  rw [ev'] at ho hb
  have k := i.op4 e l r ho hg hb
  show Ir w ins nn _ (f 0) (f 1) (f 2) (f 3) true (f 5) (f 6) (f 7) _ _ _ _ _ _ _
  rw [f5, f7, h2, h3, ev']
  exact k
theorem Ji.op5 (J : Ji w ins nn w' f v9 v48 v49 v50 v51 v52 v53) (hf : f 5 = false) (h0 : f 0 = true) (h1 : f 1 = true) (h4 : f 4 = true) : Ji w ins nn w' (fun j => if j = 5 then true else f j) v9 v48 v49 v50 v51 v52 (.agg #[v48, v49, .bool false, .bool false, .bool false, .bool false, v52, .slice none 0 0, .int .i64 0]) := by
  have f7 := f_no (fun h => (J.1.d7 h).2.2.2.2.2.1) hf
  have i := J.2.1 f7
  refine ⟨⟨J.1.d4, fun _ => ⟨h0, h1, h4⟩, fun h => no (f7.symm.trans h)⟩, fun _ => i.op5, fun h => no (f7.symm.trans h)⟩
theorem Ji.at5 (J : Ji w ins nn w' f v9 v48 v49 v50 v51 v52 v53) (hf : f 5 = false) (h0 : f 0 = true) (h1 : f 1 = true) (h4 : f 4 = true) : ∃ s0 s1 s2 : Sl, v48 = s0.v ∧ v49 = s1.v ∧ v52 = s2.v := by
  have f7 := f_no (fun h => (J.1.d7 h).2.2.2.2.2.1) hf
  have i := J.2.1 f7
  obtain ⟨g, e, _⟩ := i.h0 h0
  obtain ⟨g', e', _⟩ := i.h1 h1
  obtain ⟨s, e'', _⟩ := i.h4 h4
  exact ⟨⟨_, _, _⟩, ⟨_, _, _⟩, s, e, e', e''⟩
theorem Ji.op6 (J : Ji w ins nn w' f v9 v48 v49 v50 v51 v52 v53) (hf : f 6 = false) : Ji w ins nn (w'.alloc (.cells zMv.cs 38)) (fun j => if j = 6 then true else f j) (.pointer (some ⟨w'.heap.size, 0, none⟩)) v48 v49 v50 v51 v52 v53 := by
  have f7 := f_no (fun h => (J.1.d7 h).2.2.2.2.2.2) hf
  have i := J.2.1 f7
  rw [f7] at i
  refine ⟨⟨J.1.d4, J.1.d5, fun h => no (f7.symm.trans h)⟩, fun _ => ?_, fun h => no (f7.symm.trans h)⟩
  have k := i.op6
  show Ir w ins nn _ (f 0) (f 1) (f 2) (f 3) (f 4) (f 5) true (f 7) _ _ _ _ _ _ _
  rw [f7]
  exact k
theorem Ji.at7 (J : Ji w ins nn w' f v9 v48 v49 v50 v51 v52 v53) (hf : f 7 = false) (h5 : f 5 = true) (h6 : f 6 = true) : ∃ (g9 : Nat) (y : Mv), v9 = .pointer (some ⟨g9, 0, none⟩) ∧ v53 = .agg y.cs ∧ w'.heap[g9]? = some (.cells zMv.cs 38 (0, 0)) ∧ Ji w ins nn (w'.setRow g9 y.cs) (fun j => if j = 7 then true else f j) v9 v48 v49 v50 v51 v52 v53 := by
  obtain ⟨h0, h1, h4⟩ := J.1.d5 h5
  obtain ⟨h2, h3⟩ := J.1.d4 h4
  have i := J.2.1 hf
  rw [h0, h1, h2, h3, h4, h5, h6, hf] at i
  obtain ⟨g9, y, e1, e2, r, k⟩ := i.op7
  exact ⟨g9, y, e1, e2, r, ⟨J.1.d4, J.1.d5, fun _ => ⟨h0, h1, h2, h3, h4, h5, h6⟩⟩, fun h => no h.symm, fun _ => ⟨g9, y, k⟩⟩
end
set_option maxHeartbeats 4000000 in
theorem newS_yes (im ins : Sl) (ni nn : List Int) (a st : Int) (w : World) (hi : RdN w im.a ni) (hn : RdN w ins.a nn) (li : ni.length = im.n) (ln : nn.length = ins.n) (nz : ins.nz) (hb : newB ni a st nn = true) :
    Calls Try.prog 66 #[.slice im.a im.n im.c, .int .i64 a, .int .i64 st, .slice ins.a ins.n ins.c] w fun e w' => ∃ y : Mv, e = .returned (.agg y.cs) ∧ y.fl = zMv.fl ∧ OwnM w' (w.heap.size + 1) y ⟨over z256 (a / 2).toNat ni, newR st, nn, []⟩ ∧ Below w.heap.size w w' := by
  obtain ⟨p0, p1, p2, p3, p4, p5, p6⟩ := newB_parts hb
  have HB := hide (below_new w (.cells #[Value.slice none 0 0, Value.slice none 0 0, Value.bool false, Value.bool false, Value.bool false, Value.bool false, Value.slice none 0 0, Value.slice none 0 0, Value.int .i64 0] 38))
  obtain ⟨a0, a1⟩ := inB_b p0
  have W0 := hide (p3 ▸ wordsS_any im.a im.n im.c ni _ li (by omega) (hi.later (unhide HB)))
  have W1 := hide (p6 ▸ wordsS_any ins.a ins.n ins.c nn _ ln (by omega) (hn.later (unhide HB)))
  have I0 := hide (fun w => p0 ▸ in_any a 0 510 w)
  have I1 := hide (fun w => p4 ▸ in_any st 0 65535 w)
  have HI := hide hi
  have HN := hide hn
  have LI := hide li
  have LN := hide ln
  rw [li] at p2
  rw [ln] at p5
  have g0 : 0 ≤ a % 2 := by omega
  have g1 : a % 2 ≤ 0 := by omega
  have NZ := hide nz
  clear hi hn li ln p0 p1 p3 p4 p6 hb nz
  go_enter Try.func66, Try.ntmps66
  go_wp2_with (first | (go_at_call_of 46 (Value.int IntKind.i64 a); refine (unhide I0 _).mono ?_; rintro e w' ⟨rfl, rfl⟩) | (go_at_call_of 46 (Value.int IntKind.i64 st); refine (unhide I1 _).mono ?_; rintro e w' ⟨rfl, rfl⟩) | (go_at_call_of 52 (Value.slice im.a im.n im.c); refine (unhide W0).mono ?_; rintro e w' ⟨rfl, rfl⟩) | (go_at_call_of 52 (Value.slice ins.a ins.n ins.c); refine (unhide W1).mono ?_; rintro e w' ⟨rfl, rfl⟩))
  refine wp_region_inv (fun f a' w' => ∃ v9 v48 v49 v50 v51 v52 v53 : Value, a' = ⟨#[_, _, _, _, _, _, _, _, _, v9, _, _, _, _, _, _, _, _, _, _, _, _, _, _, _, _, _, _, _, _, _, _, _, _, _, _, _, _, _, _, _, _, _, _, _, _, _, _, v48, v49, v50, v51, v52, v53, _, _, _, _, _, _, _, _, _, _, _, _, _, _, _, _, _, _, _, _, _, _, _, _, _], []⟩ ∧ Ji w ins nn w' f v9 v48 v49 v50 v51 v52 v53) (by kernel_rfl) ⟨undef, undef, undef, undef, undef, undef, undef, rfl, ji_new ⟨rfl, rfl, rfl, Nat.le_refl _, fun _ _ => rfl⟩⟩ (by kernel_rfl) ?_ ?_
  · intro i o ho f a' w' hI hf hd K2 hK2
    obtain ⟨v9, v48, v49, v50, v51, v52, v53, rfl, J⟩ := hI
    have hi8 : i < 8 := by have := (Array.getElem?_eq_some_iff.1 ho).1; simpa using this
    obtain rfl | rfl | rfl | rfl | rfl | rfl | rfl | rfl : i = 0 ∨ i = 1 ∨ i = 2 ∨ i = 3 ∨ i = 4 ∨ i = 5 ∨ i = 6 ∨ i = 7 := by omega
    · obtain rfl := Option.some.inj ho
      rw [if_pos (by rfl)]
      refine wp_make 256 made256 (by omega) rfl ?_
      exact hK2 _ _ ⟨v9, _, v49, v50, v51, v52, v53, rfl, J.op0 hf⟩
    · obtain rfl := Option.some.inj ho
      rw [if_pos (by rfl)]
      refine wp_make 8 made8 (by omega) rfl ?_
      exact hK2 _ _ ⟨v9, v48, _, v50, v51, v52, v53, rfl, J.op1 hf⟩
    · obtain rfl := Option.some.inj ho
      rw [if_pos (by rfl)]
      refine wp_empty rfl ?_
      exact hK2 _ _ ⟨v9, v48, v49, _, v51, v52, v53, rfl, J.op2 hf⟩
    · obtain rfl := Option.some.inj ho
      rw [if_pos (by rfl)]
      refine wp_move _ rfl ?_
      exact hK2 _ _ ⟨v9, v48, v49, v50, _, v52, v53, rfl, J.op3 hf⟩
    · obtain rfl := Option.some.inj ho
      rw [if_pos (by rfl)]
      obtain ⟨e51, z1, bl, g, e50, ow, step⟩ := J.at4 hf (hd ⟨2, .data⟩ (by simp) rfl) (hd ⟨3, .data⟩ (by simp) rfl)
      refine wp_app _ _ rfl (w.heap.size + 1) v50 [] rfl ow ins nn e51 ((unhide HN).later bl) (unhide LN) (unhide NZ) (by simp; omega) z1 ?_
      intro v' w2 o1 o2 o3
      rw [e50] at o2 o3
      exact hK2 _ _ ⟨v9, v48, v49, v50, v51, _, v53, rfl, step v' w2 o1 o2 o3⟩
    · obtain rfl := Option.some.inj ho
      rw [if_pos (by rfl)]
      obtain ⟨s0, s1, s2, e0, e1, e2⟩ := J.at5 hf (hd ⟨0, .data⟩ (by simp) rfl) (hd ⟨1, .data⟩ (by simp) rfl) (hd ⟨4, .data⟩ (by simp) rfl)
      refine wp_build28 _ _ _ rfl s0 s1 s2 e0 e1 e2 ?_
      have J5 := J.op5 hf (hd ⟨0, .data⟩ (by simp) rfl) (hd ⟨1, .data⟩ (by simp) rfl) (hd ⟨4, .data⟩ (by simp) rfl)
      rw [← e0, ← e1, ← e2]
      exact hK2 _ _ ⟨v9, v48, v49, v50, v51, v52, _, rfl, J5⟩
    · obtain rfl := Option.some.inj ho
      rw [if_pos (by rfl)]
      refine wp_alloc28 rfl ?_
      exact hK2 _ _ ⟨_, v48, v49, v50, v51, v52, v53, rfl, J.op6 hf⟩
    · obtain rfl := Option.some.inj ho
      rw [if_pos (by rfl)]
      obtain ⟨g9, y, e9, e53, r9, k⟩ := J.at7 hf (hd ⟨5, .data⟩ (by simp) rfl) (hd ⟨6, .data⟩ (by simp) rfl)
      refine wp_store_row 38 _ _ rfl g9 y.cs e9 e53 38 zMv.cs r9 (by kernel_rfl) rfl (Mv.cs_one _) ?_
      exact hK2 _ _ ⟨v9, v48, v49, v50, v51, v52, v53, rfl, k⟩
  · intro f a' w' hI hall
    obtain ⟨v9, v48, v49, v50, v51, v52, v53, rfl, J⟩ := hI
    obtain ⟨g9, y, E⟩ := J.2.2 (hall 7 (by simp))
    obtain ⟨gm, hgm⟩ := E.ym
    obtain ⟨gr, hgr⟩ := E.yr
    obtain ⟨k, hk⟩ := Int.eq_ofNat_of_zero_le (show 0 ≤ a / 2 by omega)
    have N0 := hide (show Nl w w' y g9 ⟨over z256 k (ni.take 0), List.replicate 8 0, nn, []⟩ from ⟨E.bel, E.r9, by rw [List.take_zero, over_nil]; exact E.own⟩)
    have e9 := E.p9
    subst e9
    have NE := hide E.ne
    have FL := hide E.fl
    have L9 := hide E.l9
    have GM := hide hgm
    have GR := hide hgr
    have HK := hide hk
    have QU := hide (quo2 a0 (by omega) hk)
    have kb : k + im.n ≤ 256 := by omega
    clear E J hall hgm hgr hk W0 W1 I0 I1 HB
    go_wp2
    go_loopw [10] (fun i wr => ∃ j : Nat, j ≤ im.n ∧ i = .int .i64 j ∧ Nl w wr y g9 ⟨over z256 k (ni.take j), List.replicate 8 0, nn, []⟩) (fun i _ => im.n - (intOf i).toNat)
    case atStart => exact ⟨0, Nat.zero_le _, rfl, unhide N0⟩
    case round =>
      obtain ⟨j, hj, rfl, hN⟩ := hrel
      have NR := hide hN
      clear hN N0
      by_cases hlt : j < im.n
      · have LI' := unhide LI
        rcases (unhide HI).later (unhide NR).low with h0 | ⟨b, off, hia, hbl, hcl⟩
        · rw [h0] at LI'; simp at LI'; omega
        have hb0 : b < w.heap.size := by
          rcases (unhide HI) with h0 | ⟨b', off', e', hb', _⟩
          · rw [h0] at LI'; simp at LI'; omega
          · rw [hia] at e'; cases e'; exact hb'
        have HIA := hide hia
        have C9 := hide (show wr.cell? ⟨g9, 0, none⟩ = some (.slice (some ⟨gm, 0, none⟩) 256 256) by rw [row_m (unhide NR).r9, unhide GM])
        have CI := hide (hcl j (by omega))
        have hlen : (over z256 k (ni.take j)).length = 256 := by rw [over_len _ _ _ (by rw [z256_len, List.length_take]; omega), z256_len]
        have CM := hide ((unhide NR).cellM (unhide GM) (k + j) (by show k + j < (over z256 k (ni.take j)).length; omega))
        have nd := ((unhide NR).later (below_drew (w := wr))).setM (unhide GM) (unhide NE) (k + j) (nAt ni j) (by show k + j < (over z256 k (ni.take j)).length; omega)
        have nd2 : Nl w (wr.drew.setCell ⟨gm, k + j, none⟩ (.int .i64 (nAt ni j))) y g9 ⟨over z256 k (ni.take (j + 1)), List.replicate 8 0, nn, []⟩ := by
          rw [← over_set z256 ni k j (by omega) (by rw [z256_len]; omega)]
          exact nd
        have ND := hide nd2
        have hadd : Hid (IntKind.i64.wrap ((k : Int) + (j : Int)) = (k : Int) + (j : Int)) := hide (by rw [IntKind.wrap_i64]; omega)
        have htn : Hid (((k : Int) + (j : Int)).toNat = k + j) := hide (by omega)
        have S2 := hide (show (wr.drew.setCell ⟨gm, k + j, none⟩ (.int .i64 (nAt ni j))).cell? ⟨b, off + j, none⟩ = some (.int .i64 (nAt ni j)) by
          have hat : y.at gm := .inl (by rw [unhide GM]; rfl)
          have := ((unhide NR).own.lo hat).1
          rw [World.cell?_of_block (w := wr.drew) (Below.heap_setCell wr.drew ⟨gm, k + j, none⟩ _ b (by show b ≠ gm; omega))]
          exact unhide CI)
        clear hcl nd nd2 hbl hia
        generalize nAt ni j = q at CI ND S2 ⊢
        go_wp2_with fail
        refine wp_region_held_drew (S := fun w' => w'.cell? ⟨g9, 0, none⟩ = some (.slice (some ⟨gm, 0, none⟩) 256 256) ∧ w'.cell? ⟨b, off + j, none⟩ = some (.int .i64 q)) (by kernel_rfl) ⟨unhide C9, unhide CI⟩ (fun hS => ?_)
        have HS := hide hS
        clear hS
        refine wpAnyH_take (i := 0) (v := .pointer (some ⟨g9, 0, none⟩)) rfl (by kernel_rfl) (by kernel_rfl) (by kernel_rfl) (fun _ _ _ h => h) (Or.inl ⟨by rfl, fun w hc => ?_⟩) (unhide HS) ?_
        · clear hc; go_simp
        go_simp
        refine wpAnyH_take (i := 1) (v := .slice (some ⟨gm, 0, none⟩) 256 256) rfl (by kernel_rfl) (by kernel_rfl) (by kernel_rfl) (fun _ _ _ h => h) (Or.inl ⟨by rfl, fun w hc => ?_⟩) (unhide HS) ?_
        · obtain ⟨hc1, hc2⟩ := hc; go_simp
        go_simp
        refine wpAnyH_take (i := 2) (v := .int .i64 a) rfl (by kernel_rfl) (by kernel_rfl) (by kernel_rfl) (fun _ _ _ h => h) (Or.inl ⟨by rfl, fun w hc => ?_⟩) (unhide HS) ?_
        · clear hc; go_simp
        go_simp
        refine wpAnyH_take (i := 3) (v := .int .i64 (k : Int)) rfl (by kernel_rfl) (by kernel_rfl) (by kernel_rfl) (fun _ _ _ h => h) (Or.inl ⟨by rfl, fun w hc => ?_⟩) (unhide HS) ?_
        · clear hc; have hq := unhide QU; go_simp
        go_simp
        refine wpAnyH_take (i := 4) (v := .int .i64 (j : Int)) rfl (by kernel_rfl) (by kernel_rfl) (by kernel_rfl) (fun _ _ _ h => h) (Or.inl ⟨by rfl, fun w hc => ?_⟩) (unhide HS) ?_
        · clear hc; go_simp
        go_simp
        refine wpAnyH_take (i := 5) (v := .int .i64 ((k : Int) + (j : Int))) rfl (by kernel_rfl) (by kernel_rfl) (by kernel_rfl) (fun _ _ _ h => h) (Or.inl ⟨by rfl, fun w hc => ?_⟩) (unhide HS) ?_
        · clear hc; have hq := unhide hadd; go_simp
        go_simp
        refine wpAnyH_take (i := 6) (v := .slice im.a im.n im.c) rfl (by kernel_rfl) (by kernel_rfl) (by kernel_rfl) (fun _ _ _ h => h) (Or.inl ⟨by rfl, fun w hc => ?_⟩) (unhide HS) ?_
        · clear hc; go_simp
        go_simp
        refine wpAnyH_take (i := 7) (v := .int .i64 (j : Int)) rfl (by kernel_rfl) (by kernel_rfl) (by kernel_rfl) (fun _ _ _ h => h) (Or.inl ⟨by rfl, fun w hc => ?_⟩) (unhide HS) ?_
        · clear hc; go_simp
        go_simp
        refine wpAnyH_take (i := 8) (v := .pointer (some ⟨b, off + j, none⟩)) rfl (by kernel_rfl) (by kernel_rfl) (by kernel_rfl) (fun _ _ _ h => h) (Or.inl ⟨by rfl, fun w hc => ?_⟩) (unhide HS) ?_
        · clear hc; have hq := unhide HIA; go_simp
        go_simp
        refine wpAnyH_take (i := 9) (v := .int .i64 q) rfl (by kernel_rfl) (by kernel_rfl) (by kernel_rfl) (fun _ _ _ h => h) (Or.inl ⟨by rfl, fun w hc => ?_⟩) (unhide HS) ?_
        · obtain ⟨hc1, hc2⟩ := hc; go_simp
        go_simp
        refine wpAnyH_take (i := 10) (v := .pointer (some ⟨gm, k + j, none⟩)) rfl (by kernel_rfl) (by kernel_rfl) (by kernel_rfl) (fun _ _ _ h => h) (Or.inl ⟨by rfl, fun w hc => ?_⟩) (unhide HS) ?_
        · clear hc; have hq := unhide htn; have hq2 : (k : Int) + (j : Int) < 256 := (by omega); go_simp; intro h; omega
        go_simp
        refine wpAnyH_ready (rs := [11]) (by kernel_rfl) (by simp) ?_
        refine AllReadyH.cons rfl (fun K2 hK => ?_) AllReadyH.nil
        obtain ⟨cm1, cm2⟩ := unhide CM
        go_simp
        refine hK.out _ _ ⟨(row_m (unhide ND).r9).trans (by rw [unhide GM]), unhide S2⟩ (fun _ => ?_)
        clear hK K2 cm1 cm2
        refine wpAnyH_done (by kernel_rfl) ?_ _
        go_wp2
        go_roundw
        case rel => exact ⟨j + 1, by omega, by go_num, unhide ND⟩
        case measure => simp [intOf]; omega
      · obtain rfl : j = im.n := by omega
        have LI' := unhide LI
        have N1 := hide (show Nl w wr y g9 ⟨over z256 k ni, List.replicate 8 0, nn, []⟩ by
          have := unhide NR
          rw [List.take_of_length_le (by omega)] at this
          exact this)
        have N2 := hide ((unhide N1).setR (unhide GR) (unhide NE) 6 512 (by simp))
        have N3 := hide ((unhide N2).setR (unhide GR) (unhide NE) 7 st (by simp))
        have hat : y.at gr := .inr (.inl (by rw [unhide GR]; rfl))
        have ng := unhide NE gr hat
        have ng2 : g9 ≠ gr := fun e => ng e.symm
        obtain ⟨c6, f6⟩ := (unhide N1).cellR (unhide GR) 6 (by simp)
        obtain ⟨c7, f7⟩ := (unhide N1).cellR (unhide GR) 7 (by simp)
        have c9 : wr.cell? ⟨g9, 1, none⟩ = some (.slice (some ⟨gr, 0, none⟩) 8 8) := by rw [row_r (unhide N1).r9, unhide GR]
        clear NR hat LI'
        go_wp2_with (first | (refine wpList_load_row rfl 38 _ rfl g9 rfl 38 y.cs (0, 0) _ (unhide N3).r9 Try.underlying38 rfl (by kernel_rfl) ?_) | (refine wpList_store_row rfl 38 _ _ rfl w.heap.size y.cs rfl rfl 38 zMv.cs (unhide N3).re (by kernel_rfl) rfl (Mv.cs_one _) ?_))
        refine bodyPost_ret (results_cell_row (P := Try.prog) rfl _ _ w.heap.size 38 y.cs (0, 0) _ rfl (setRow_heap _ _ _ _ 38 _ (unhide N3).re) Try.underlying38 rfl (by kernel_rfl)) rfl ?_
        refine ⟨y, rfl, unhide FL, ?_, below_setRow (unhide N3).low (Nat.le_refl _) _⟩
        rw [show (a / 2).toNat = k by have := unhide HK; omega]
        exact (unhide N3).own.row (by omega) _
end Go.Proofs.Ytjpbjbnialehbaa

namespace Go.Proofs.Ytjpbjbnialehbaa
open Go.ChangeShapes Go.WideShapes Go.ChangeAt Go.RowKit
set_option linter.unusedVariables false
set_option maxRecDepth 8000
set_option linter.unusedSimpArgs false
section
variable {w wr w' : World} {x : Mv} {r a : Int}
end
/-- One register of an owned machine written. -/
theorem own_setR {w : World} {B gr n c : Nat} {y : Mv} {d : Md} (O : OwnM w B y d) (e : y.r = ⟨some ⟨gr, 0, none⟩, n, c⟩) (k : Nat) (v : Int) (hk : k < d.r.length) :
    OwnM (w.setCell ⟨gr, k, none⟩ (.int .i64 v)) B y ⟨d.m, d.r.set k v, d.i, d.o⟩ ∧ w.grownBy (w.setCell ⟨gr, k, none⟩ (.int .i64 v)) (some gr) ∧ B ≤ gr ∧ gr < w.heap.size ∧ w.cell? ⟨gr, k, none⟩ = some (.int .i64 (nAt d.r k)) ∧ w.frozen? ⟨gr, k, none⟩ = false := by
  have ev : y.r.v = .slice (some ⟨gr, 0, none⟩) n c := by rw [e]; rfl
  have o := O.r
  rw [ev] at o
  obtain ⟨c1, c2⟩ := o.cellAt k hk
  have st := o.set k v hk
  have lt := o.lt (g := gr) rfl
  exact ⟨O.putR (by rw [ev]; exact st.2) (by rw [ev]; exact st.1), st.2, lt.1, lt.2, c1, c2⟩
theorem row_past {w w' : World} {g gr : Nat} {o : Obj} (h : w.heap[g]? = some o) (hg : w.grownBy w' (some gr)) (hne : gr ≠ g) : w'.heap[g]? = some o := (hg.block g (row_lt h) (fun e => hne (by cases e; rfl))).trans h
end Go.Proofs.Ytjpbjbnialehbaa

namespace Go.Proofs.Ytjpbjbnialehbaa
open Go.ChangeShapes Go.WideShapes Go.ChangeAt Go.RowKit
set_option linter.unusedVariables false
set_option maxRecDepth 8000
set_option linter.unusedSimpArgs false
/-- A register set. -/
def Md.reg (d : Md) (k : Nat) (v : Int) : Md := ⟨d.m, d.r.set k v, d.i, d.o⟩
/-- A machine at a pointer: its row, and that it is owned; the block of its registers. -/
structure Pm (w : World) (g B gr rc : Nat) (x : Mv) (d : Md) : Prop where
  row : w.heap[g]? = some (.cells x.cs 38 (0, 0))
  own : OwnM w B x d
  er : x.r = ⟨some ⟨gr, 0, none⟩, d.r.length, rc⟩
  ne : gr ≠ g
section
variable {w w' : World} {g B gr rc : Nat} {x : Mv} {d : Md}
theorem Pm.later (h : Pm w g B gr rc x d) (hb : Below w.heap.size w w') : Pm w' g B gr rc x d := ⟨row_lat h.row hb, h.own.later hb, h.er, h.ne⟩
theorem Pm.set (h : Pm w g B gr rc x d) (k : Nat) (v : Int) (hk : k < d.r.length) : Pm (w.setCell ⟨gr, k, none⟩ (.int .i64 v)) g B gr rc x (d.reg k v) ∧ w.grownBy (w.setCell ⟨gr, k, none⟩ (.int .i64 v)) (some gr) ∧ w.cell? ⟨gr, k, none⟩ = some (.int .i64 (nAt d.r k)) ∧ w.frozen? ⟨gr, k, none⟩ = false := by
  obtain ⟨o3, g3, _, _, c1, c2⟩ := own_setR h.own h.er k v hk
  exact ⟨⟨row_past h.row g3 h.ne, o3, by rw [h.er]; unfold Md.reg; simp, h.ne⟩, g3, c1, c2⟩
theorem Pm.cell (h : Pm w g B gr rc x d) (k : Nat) (hk : k < d.r.length) : w.cell? ⟨gr, k, none⟩ = some (.int .i64 (nAt d.r k)) := (h.set k 0 hk).2.2.1
theorem Pm.r (h : Pm w g B gr rc x d) : w.cell? ⟨g, 1, none⟩ = some (.slice (some ⟨gr, 0, none⟩) d.r.length rc) := by rw [row_r h.row, h.er]
end
end Go.Proofs.Ytjpbjbnialehbaa

namespace Go.Proofs.Ytjpbjbnialehbaa
open Go.ChangeShapes Go.WideShapes Go.ChangeAt Go.RowKit
set_option linter.unusedVariables false
set_option maxRecDepth 8000
set_option linter.unusedSimpArgs false
/-- The program's machine at a pointer: its row, and that its lists are owned; the block of its registers. -/
structure Pg (w : World) (g B gr rc : Nat) (y : Mv) (d : Md) : Prop where
  row : w.heap[g]? = some (.cells (bigA d.m y) 69 (0, 0))
  len : d.m.length = 256
  own : OwnM w B y d
  er : y.r = ⟨some ⟨gr, 0, none⟩, d.r.length, rc⟩
  ne : gr ≠ g
section
variable {w w' : World} {g B gr rc : Nat} {y : Mv} {d : Md}
theorem Pg.later (h : Pg w g B gr rc y d) (hb : Below w.heap.size w w') : Pg w' g B gr rc y d := ⟨row_lat h.row hb, h.len, h.own.later hb, h.er, h.ne⟩
theorem Pg.set (h : Pg w g B gr rc y d) (k : Nat) (v : Int) (hk : k < d.r.length) : Pg (w.setCell ⟨gr, k, none⟩ (.int .i64 v)) g B gr rc y (d.reg k v) ∧ w.grownBy (w.setCell ⟨gr, k, none⟩ (.int .i64 v)) (some gr) ∧ w.cell? ⟨gr, k, none⟩ = some (.int .i64 (nAt d.r k)) ∧ w.frozen? ⟨gr, k, none⟩ = false := by
  obtain ⟨o3, g3, _, _, c1, c2⟩ := own_setR h.own h.er k v hk
  exact ⟨⟨row_past h.row g3 h.ne, h.len, o3, by rw [h.er]; unfold Md.reg; simp, h.ne⟩, g3, c1, c2⟩
theorem Pg.cell (h : Pg w g B gr rc y d) (k : Nat) (hk : k < d.r.length) : w.cell? ⟨gr, k, none⟩ = some (.int .i64 (nAt d.r k)) := (h.set k 0 hk).2.2.1
theorem Pg.r (h : Pg w g B gr rc y d) : w.cell? ⟨g, 257, none⟩ = some (.slice (some ⟨gr, 0, none⟩) d.r.length rc) := by
  have c := big_cell h.row h.len 1 (.slice y.r.a y.r.n y.r.c) rfl
  rw [h.er] at c
  exact c
theorem Pg.word (h : Pg w g B gr rc y d) {a : Int} (ha : d.has a = true) : w.cell? ⟨g, (a / 2).toNat, none⟩ = some (.int .i64 (d.get a)) := by
  obtain ⟨ta, tl⟩ := has_t ha
  obtain ⟨t0, t1, _⟩ := adB_t ta
  rw [cell_of_row w g _ _ 69 _ h.row, bigA_mem y h.len (by omega)]
  unfold Md.get
  rw [if_pos ha]
end
end Go.Proofs.Ytjpbjbnialehbaa

namespace Go.Proofs.Ytjpbjbnialehbaa
open Go.ChangeShapes Go.WideShapes Go.ChangeAt Go.RowKit
set_option linter.unusedVariables false
set_option maxRecDepth 8000
set_option linter.unusedSimpArgs false
theorem grown_below {w w1 w2 : World} {o : Option Nat} (h : w.grownBy w1 o) (hb : Below w1.heap.size w1 w2) : w.grownBy w2 o := h.trans ⟨hb.os, hb.tape, hb.output, hb.size, fun k hk _ => hb.block k hk⟩
end Go.Proofs.Ytjpbjbnialehbaa

namespace Go.Proofs.Ytjpbjbnialehbaa
open Go.ChangeShapes Go.WideShapes Go.ChangeAt Go.RowKit
set_option linter.unusedVariables false
set_option maxRecDepth 8000
set_option linter.unusedSimpArgs false
theorem Pm.setRow {w w1 : World} {g B gr rc b : Nat} {x : Mv} {d : Md} (h : Pm w1 g B gr rc x d) (hg : g < w.heap.size) (ha : ∀ b, x.at b → b < w.heap.size) (hb : w.heap.size ≤ b) (cs : Array Value) : Pm (w1.setRow b cs) g B gr rc x d :=
  ⟨(setRow_other w1 b g cs (by omega)).trans h.row, h.own.keepH fun k hk _ => setRow_other w1 b k cs (by have := ha k hk; omega), h.er, h.ne⟩
section
variable (g B gr rc re : Nat) (X : Int) (x : Mv) (d : Md) (w : World)
end
end Go.Proofs.Ytjpbjbnialehbaa

namespace Go.Proofs.Ytjpbjbnialehbaa
open Go.ChangeShapes Go.WideShapes Go.ChangeAt Go.RowKit
set_option linter.unusedVariables false
set_option maxRecDepth 8000
set_option linter.unusedSimpArgs false
theorem Pg.setRow {w w1 : World} {g B gr rc b : Nat} {y : Mv} {d : Md} (h : Pg w1 g B gr rc y d) (hg : g < w.heap.size) (ha : ∀ b, y.at b → b < w.heap.size) (hb : w.heap.size ≤ b) (cs : Array Value) : Pg (w1.setRow b cs) g B gr rc y d :=
  ⟨(setRow_other w1 b g cs (by omega)).trans h.row, h.len, h.own.keepH fun k hk _ => setRow_other w1 b k cs (by have := ha k hk; omega), h.er, h.ne⟩
section
variable {w wr w' : World} {gr : Nat} {mo re X : Int}
end
section
variable (g B gr rc re : Nat) (X : Int) (y : Mv) (d : Md) (w : World)
end
end Go.Proofs.Ytjpbjbnialehbaa

namespace Go.Proofs.Ytjpbjbnialehbaa
open Go.ChangeShapes Go.WideShapes Go.ChangeAt Go.RowKit
set_option linter.unusedVariables false
set_option maxRecDepth 8000
set_option linter.unusedSimpArgs false
/-- The machine that is handed over to be copied. -/
def xOf (s0 s1 ins : Sl) : Mv := ⟨s0, s1, false, false, false, false, ins, ⟨none, 0, 0⟩, 0⟩
structure Iq (w : World) (ins : Sl) (nn : List Int) (w' : World) (b0 b1 b2 b3 b4 b5 : Bool) (v9 v41 v42 v43 v44 v45 : Value) : Prop where
  bel : Below (w.heap.size + 1) (w.alloc (.cells zMv.cs 38)) w'
  h0 : b0 = true → ∃ g, v41 = (Sl.mk (some ⟨g, 0, none⟩) 256 256).v ∧ w'.heap[g]? = some (.cells (zA 256) 3 (0, 0))
  h1 : b1 = true → ∃ g, v42 = (Sl.mk (some ⟨g, 0, none⟩) 8 8).v ∧ w'.heap[g]? = some (.cells (zA 8) 3 (0, 0))
  h2 : b2 = true → v43 = ins.v
  h3 : b3 = true → ∃ s0 s1 : Sl, v41 = s0.v ∧ v42 = s1.v ∧ v44 = .agg (xOf s0 s1 ins).cs
  h4 : b4 = true → ∃ y : Mv, v45 = .agg (bigA z256 y) ∧ y.fl = zMv.fl ∧ OwnM w' (w.heap.size + 1) y ⟨List.replicate 256 0, List.replicate 8 0, nn, []⟩ ∧ (b5 = true → ∀ b, y.at b → v9 ≠ .pointer (some ⟨b, 0, none⟩))
  h5 : b5 = true → ∃ g, v9 = .pointer (some ⟨g, 0, none⟩) ∧ w.heap.size < g ∧ w'.heap[g]? = some (.cells (bigA z256 zMv) 69 (0, 0))
/-- What stands at its end. -/
structure Ih (w w' : World) (nn : List Int) (v9 : Value) (g9 : Nat) (mem : List Int) (y : Mv) (d : Md) : Prop where
  bel : Below (w.heap.size + 1) (w.alloc (.cells zMv.cs 38)) w'
  p9 : v9 = .pointer (some ⟨g9, 0, none⟩)
  l9 : w.heap.size < g9
  r9 : w'.heap[g9]? = some (.cells (bigA mem y) 69 (0, 0))
  own : OwnM w' (w.heap.size + 1) y d
  fl : y.fl = zMv.fl
  ne : ∀ b, y.at b → b ≠ g9
section
variable {w w' : World} {ins : Sl} {nn : List Int} {b0 b1 b2 b3 b4 b5 : Bool} {v9 v41 v42 v43 v44 v45 : Value}
theorem Iq.low (J : Iq w ins nn w' b0 b1 b2 b3 b4 b5 v9 v41 v42 v43 v44 v45) : Below w.heap.size w w' := (below_new w (.cells zMv.cs 38)).trans (J.bel.mono (by omega))
theorem Iq.size (J : Iq w ins nn w' b0 b1 b2 b3 b4 b5 v9 v41 v42 v43 v44 v45) : w.heap.size + 1 ≤ w'.heap.size := by have := J.bel.size; have := alloc_size w (.cells zMv.cs 38); omega
/-- All stays behind what makes memory. -/
theorem Iq.later {w2 : World} (J : Iq w ins nn w' b0 b1 b2 b3 b4 b5 v9 v41 v42 v43 v44 v45) (hb : Below w'.heap.size w' w2) : Iq w ins nn w2 b0 b1 b2 b3 b4 b5 v9 v41 v42 v43 v44 v45 := by
  refine ⟨J.bel.trans (hb.mono J.size), fun h => ?_, fun h => ?_, J.h2, J.h3, fun h => ?_, fun h => ?_⟩
  · obtain ⟨g, e, r⟩ := J.h0 h; exact ⟨g, e, row_lat r hb⟩
  · obtain ⟨g, e, r⟩ := J.h1 h; exact ⟨g, e, row_lat r hb⟩
  · obtain ⟨y, e, f, o, n⟩ := J.h4 h; exact ⟨y, e, f, o.later hb, n⟩
  · obtain ⟨g, e, l, r⟩ := J.h5 h; exact ⟨g, e, l, row_lat r hb⟩
theorem Iq.op0 (J : Iq w ins nn w' b0 b1 b2 false b4 b5 v9 v41 v42 v43 v44 v45) : Iq w ins nn (w'.alloc (.cells (zA 256) 3)) true b1 b2 false b4 b5 v9 (.slice (some ⟨w'.heap.size, 0, none⟩) 256 256) v42 v43 v44 v45 :=
  { (J.later (below_new _ _)) with h0 := fun _ => ⟨_, rfl, heap_alloc_last w' _⟩, h3 := fun h => no h }
theorem Iq.op1 (J : Iq w ins nn w' b0 b1 b2 false b4 b5 v9 v41 v42 v43 v44 v45) : Iq w ins nn (w'.alloc (.cells (zA 8) 3)) b0 true b2 false b4 b5 v9 v41 (.slice (some ⟨w'.heap.size, 0, none⟩) 8 8) v43 v44 v45 :=
  { (J.later (below_new _ _)) with h1 := fun _ => ⟨_, rfl, heap_alloc_last w' _⟩, h3 := fun h => no h }
theorem Iq.op2 (J : Iq w ins nn w' b0 b1 b2 false b4 b5 v9 v41 v42 v43 v44 v45) : Iq w ins nn w' b0 b1 true false b4 b5 v9 v41 v42 ins.v v44 v45 :=
  { J with h2 := fun _ => rfl, h3 := fun h => no h }
theorem Iq.op3 (J : Iq w ins nn w' b0 b1 b2 b3 b4 b5 v9 v41 v42 v43 v44 v45) {s0 s1 : Sl} (e0 : v41 = s0.v) (e1 : v42 = s1.v) : Iq w ins nn w' b0 b1 b2 true b4 b5 v9 v41 v42 v43 (.agg (xOf s0 s1 ins).cs) v45 :=
  { J with h3 := fun _ => ⟨s0, s1, e0, e1, rfl⟩ }
theorem Iq.op4 (J : Iq w ins nn w' b0 b1 b2 b3 b4 b5 v9 v41 v42 v43 v44 v45) {w2 : World} (hb : Below w'.heap.size w' w2) {y : Mv} (fy : y.fl = zMv.fl) (oy : OwnM w2 (w'.heap.size + 2) y ⟨List.replicate 256 0, List.replicate 8 0, nn, []⟩) : Iq w ins nn w2 b0 b1 b2 b3 true b5 v9 v41 v42 v43 v44 (.agg (bigA z256 y)) :=
  { (J.later hb) with h4 := fun _ => ⟨y, rfl, fy, oy.base (by have := J.size; omega), fun h b hb' e => by
      obtain ⟨g, e', l, r⟩ := J.h5 h
      rw [e'] at e
      have h1 := row_lt r
      have h2 := (oy.lo hb').1
      have e3 : g = b := by
        injection e with e1
        injection e1 with e2
        injection e2
      omega⟩ }
theorem Iq.op5 (J : Iq w ins nn w' b0 b1 b2 b3 b4 b5 v9 v41 v42 v43 v44 v45) : Iq w ins nn (w'.alloc (.cells (bigA z256 zMv) 69)) b0 b1 b2 b3 b4 true (.pointer (some ⟨w'.heap.size, 0, none⟩)) v41 v42 v43 v44 v45 := by
  have K := J.later (below_new w' (.cells (bigA z256 zMv) 69))
  refine { K with h4 := fun h => ?_, h5 := fun _ => ⟨_, rfl, by have := J.size; omega, heap_alloc_last w' _⟩ }
  obtain ⟨y, e, f, o, n⟩ := J.h4 h
  refine ⟨y, e, f, o.later (below_new _ _), fun _ b hb e' => ?_⟩
  have := (o.lo hb).2
  have e3 : w'.heap.size = b := by
    injection e' with e1
    injection e1 with e2
    injection e2
  omega
theorem Iq.op6 (J : Iq w ins nn w' b0 b1 b2 b3 true true v9 v41 v42 v43 v44 v45) : ∃ (g9 : Nat) (y : Mv), v9 = .pointer (some ⟨g9, 0, none⟩) ∧ v45 = .agg (bigA z256 y) ∧ w'.heap[g9]? = some (.cells (bigA z256 zMv) 69 (0, 0)) ∧ Ih w (w'.setRow g9 (bigA z256 y)) nn v9 g9 z256 y ⟨List.replicate 256 0, List.replicate 8 0, nn, []⟩ := by
  obtain ⟨y, e, f, o, n⟩ := J.h4 rfl
  obtain ⟨g, e', l, r⟩ := J.h5 rfl
  have hne : ∀ b, y.at b → b ≠ g := fun b hb e2 => n rfl b hb (by rw [e', e2])
  exact ⟨g, y, e', e, r, below_setRow J.bel (by omega) _, e', l, setRow_heap w' g _ _ 69 _ r, o.keepH fun b hb _ => setRow_other w' g b _ (hne b hb), f, hne⟩
end
structure Dq (f : Nat → Bool) : Prop where
  d3 : f 3 = true → f 0 = true ∧ f 1 = true ∧ f 2 = true
  d4 : f 4 = true → f 3 = true
  d6 : f 6 = true → f 0 = true ∧ f 1 = true ∧ f 2 = true ∧ f 3 = true ∧ f 4 = true ∧ f 5 = true
def Jq (w : World) (ins : Sl) (nn : List Int) (w' : World) (f : Nat → Bool) (v9 v41 v42 v43 v44 v45 : Value) : Prop :=
  Dq f ∧ (f 6 = false → Iq w ins nn w' (f 0) (f 1) (f 2) (f 3) (f 4) (f 5) v9 v41 v42 v43 v44 v45) ∧ (f 6 = true → ∃ (g9 : Nat) (y : Mv), Ih w w' nn v9 g9 z256 y ⟨List.replicate 256 0, List.replicate 8 0, nn, []⟩)
section
variable {w w' : World} {ins : Sl} {nn : List Int} {f : Nat → Bool} {v9 v41 v42 v43 v44 v45 : Value}
theorem Jq.op0 (J : Jq w ins nn w' f v9 v41 v42 v43 v44 v45) (hf : f 0 = false) : Jq w ins nn (w'.alloc (.cells (zA 256) 3)) (fun j => if j = 0 then true else f j) v9 (.slice (some ⟨w'.heap.size, 0, none⟩) 256 256) v42 v43 v44 v45 := by
  have f3 := f_no (fun h => (J.1.d3 h).1) hf
  have f6 := f_no (fun h => (J.1.d6 h).1) hf
  have i := J.2.1 f6
  rw [f3] at i
  refine ⟨⟨fun h => ⟨rfl, (J.1.d3 h).2⟩, J.1.d4, fun h => ⟨rfl, (J.1.d6 h).2⟩⟩, fun _ => ?_, fun h => no (f6.symm.trans h)⟩
  show Iq w ins nn _ true (f 1) (f 2) (f 3) (f 4) (f 5) _ _ _ _ _ _
  rw [f3]
  exact i.op0
theorem Jq.op1 (J : Jq w ins nn w' f v9 v41 v42 v43 v44 v45) (hf : f 1 = false) : Jq w ins nn (w'.alloc (.cells (zA 8) 3)) (fun j => if j = 1 then true else f j) v9 v41 (.slice (some ⟨w'.heap.size, 0, none⟩) 8 8) v43 v44 v45 := by
  have f3 := f_no (fun h => (J.1.d3 h).2.1) hf
  have f6 := f_no (fun h => (J.1.d6 h).2.1) hf
  have i := J.2.1 f6
  rw [f3] at i
  refine ⟨⟨fun h => ⟨(J.1.d3 h).1, rfl, (J.1.d3 h).2.2⟩, J.1.d4, fun h => ⟨(J.1.d6 h).1, rfl, (J.1.d6 h).2.2⟩⟩, fun _ => ?_, fun h => no (f6.symm.trans h)⟩
  show Iq w ins nn _ (f 0) true (f 2) (f 3) (f 4) (f 5) _ _ _ _ _ _
  rw [f3]
  exact i.op1
theorem Jq.op2 (J : Jq w ins nn w' f v9 v41 v42 v43 v44 v45) (hf : f 2 = false) : Jq w ins nn w' (fun j => if j = 2 then true else f j) v9 v41 v42 (.slice ins.a ins.n ins.c) v44 v45 := by
  have f3 := f_no (fun h => (J.1.d3 h).2.2) hf
  have f6 := f_no (fun h => (J.1.d6 h).2.2.1) hf
  have i := J.2.1 f6
  rw [f3] at i
  refine ⟨⟨fun h => ⟨(J.1.d3 h).1, (J.1.d3 h).2.1, rfl⟩, J.1.d4, fun h => ⟨(J.1.d6 h).1, (J.1.d6 h).2.1, rfl, (J.1.d6 h).2.2.2⟩⟩, fun _ => ?_, fun h => no (f6.symm.trans h)⟩
  show Iq w ins nn _ (f 0) (f 1) true (f 3) (f 4) (f 5) _ _ _ _ _ _
  rw [f3]
  exact i.op2
theorem Jq.at4 (J : Jq w ins nn w' f v9 v41 v42 v43 v44 v45) (hf : f 4 = false) (h3 : f 3 = true) (hn : RdN w ins.a nn) (ln : nn.length = ins.n) : ∃ x : Mv, v44 = .agg x.cs ∧ x.fl = zMv.fl ∧ RdM w' x ⟨List.replicate 256 0, List.replicate 8 0, nn, []⟩ ∧ (ins.nz → x.nz) ∧ (ins.n ≤ 1048576 → x.small) ∧
    ∀ (y : Mv) (w2 : World), y.fl = x.fl → OwnM w2 (w'.heap.size + 2) y ⟨List.replicate 256 0, List.replicate 8 0, nn, []⟩ → Below w'.heap.size w' w2 → Jq w ins nn w2 (fun j => if j = 4 then true else f j) v9 v41 v42 v43 v44 (.agg (bigA z256 y)) := by
  obtain ⟨h0, h1, h2⟩ := J.1.d3 h3
  have f6 := f_no (fun h => (J.1.d6 h).2.2.2.2.1) hf
  have i := J.2.1 f6
  obtain ⟨s0, s1, e0, e1, e44⟩ := i.h3 h3
  obtain ⟨g0, e0', r0⟩ := i.h0 h0
  obtain ⟨g1, e1', r1⟩ := i.h1 h1
  have q0 : s0 = ⟨some ⟨g0, 0, none⟩, 256, 256⟩ := by rw [e0] at e0'; cases s0; unfold Sl.v at e0'; simp at e0'; obtain ⟨rfl, rfl, rfl⟩ := e0'; rfl
  have q1 : s1 = ⟨some ⟨g1, 0, none⟩, 8, 8⟩ := by rw [e1] at e1'; cases s1; unfold Sl.v at e1'; simp at e1'; obtain ⟨rfl, rfl, rfl⟩ := e1'; rfl
  have n0 := (own_made (n := 256) r0 (Nat.zero_le _) (by omega))
  have n1 := (own_made (n := 8) r1 (Nat.zero_le _) (by omega))
  refine ⟨xOf s0 s1 ins, e44, rfl, ?_, ?_, ?_, fun y w2 fy oy hb => ⟨⟨J.1.d3, fun _ => h3, fun h => no (f6.symm.trans h)⟩, fun _ => i.op4 hb fy oy, fun h => no (f6.symm.trans h)⟩⟩
  · subst q0 q1
    exact ⟨n0.rd1, n1.rd1, hn.later i.low, .inl rfl, List.length_replicate .., List.length_replicate .., ln, rfl⟩
  · intro hz
    subst q0 q1
    exact ⟨fun e => by (cases e), fun e => by (cases e), hz, fun _ => rfl⟩
  · intro hz
    subst q0 q1
    exact ⟨by show 256 ≤ 1048576; omega, by show 8 ≤ 1048576; omega, hz, by show 0 ≤ 1048576; omega⟩
theorem Jq.op5 (J : Jq w ins nn w' f v9 v41 v42 v43 v44 v45) (hf : f 5 = false) : Jq w ins nn (w'.alloc (.cells (bigA z256 zMv) 69)) (fun j => if j = 5 then true else f j) (.pointer (some ⟨w'.heap.size, 0, none⟩)) v41 v42 v43 v44 v45 := by
  have f6 := f_no (fun h => (J.1.d6 h).2.2.2.2.2) hf
  have i := J.2.1 f6
  exact ⟨⟨J.1.d3, J.1.d4, fun h => no (f6.symm.trans h)⟩, fun _ => i.op5, fun h => no (f6.symm.trans h)⟩
end
end Go.Proofs.Ytjpbjbnialehbaa

namespace Go.Proofs.Ytjpbjbnialehbaa
open Go.ChangeShapes Go.WideShapes Go.ChangeAt Go.RowKit
set_option linter.unusedVariables false
set_option maxRecDepth 8000
set_option linter.unusedSimpArgs false
theorem sl_form {w : World} {B : Nat} {s : Sl} {ns : List Int} (h : OwnN w B s.v ns) (h0 : 0 < ns.length) : ∃ g c, s = ⟨some ⟨g, 0, none⟩, ns.length, c⟩ := by
  obtain ⟨sa, sn, sc⟩ := s
  rcases h.form with ⟨_, e0⟩ | ⟨g, cap, e, _⟩
  · rw [e0] at h0; simp at h0
  · unfold Sl.v at e
    simp at e
    exact ⟨g, cap, by rw [e.1, e.2.1, e.2.2]⟩
theorem Ih.setR {w wr : World} {nn mem : List Int} {v9 : Value} {y : Mv} {g9 gr n c : Nat} {d : Md} (h : Ih w wr nn v9 g9 mem y d) (hm : y.r = ⟨some ⟨gr, 0, none⟩, n, c⟩) (k : Nat) (v : Int) (hk : k < d.r.length) : Ih w (wr.setCell ⟨gr, k, none⟩ (.int .i64 v)) nn v9 g9 mem y ⟨d.m, d.r.set k v, d.i, d.o⟩ := by
  have e : y.r.v = .slice (some ⟨gr, 0, none⟩) n c := by rw [hm]; rfl
  have o := h.own.r
  rw [e] at o
  have s := o.set k v hk
  have hat : y.at gr := .inr (.inl (by rw [e]; rfl))
  have := h.own.lo hat
  exact ⟨h.bel.setCell (p := ⟨gr, k, none⟩) this.1 _, h.p9, h.l9, row_keep h.r9 (fun e => h.ne gr hat e.symm), h.own.putR (by rw [e]; exact s.2) (by rw [e]; exact s.1), h.fl, h.ne⟩
theorem Ih.cellR {w wr : World} {nn mem : List Int} {v9 : Value} {y : Mv} {g9 gr n c : Nat} {d : Md} (h : Ih w wr nn v9 g9 mem y d) (hm : y.r = ⟨some ⟨gr, 0, none⟩, n, c⟩) (k : Nat) (hk : k < d.r.length) : wr.cell? ⟨gr, k, none⟩ = some (.int .i64 (nAt d.r k)) ∧ wr.frozen? ⟨gr, k, none⟩ = false := by
  have o := h.own.r
  rw [hm] at o
  exact OwnN.cellAt (b := gr) (n := n) (cap := c) o k hk
theorem Ih.re {w wr : World} {nn mem : List Int} {v9 : Value} {y : Mv} {g9 : Nat} {d : Md} (h : Ih w wr nn v9 g9 mem y d) : wr.heap[w.heap.size]? = some (.cells zMv.cs 38 (0, 0)) := (h.bel.block w.heap.size (by omega)).trans (heap_alloc_last w _)
theorem Ih.low {w wr : World} {nn mem : List Int} {v9 : Value} {y : Mv} {g9 : Nat} {d : Md} (h : Ih w wr nn v9 g9 mem y d) : Below w.heap.size w wr := (below_new w (.cells zMv.cs 38)).trans (h.bel.mono (by omega))
end Go.Proofs.Ytjpbjbnialehbaa

namespace Go.Proofs.Ytjpbjbnialehbaa
open Go.ChangeShapes Go.WideShapes Go.ChangeAt Go.RowKit
set_option linter.unusedVariables false
set_option maxRecDepth 8000
set_option linter.unusedSimpArgs false
/-- What came in, while the law goes on. -/
structure Lm (W wr : World) (im ins : Sl) (ni nn : List Int) : Prop where
  bel : Below W.heap.size W wr
  ri : RdN wr im.a ni
  rn : RdN wr ins.a nn
section
variable {W w w' : World} {im ins : Sl} {ni nn ns : List Int} {row : Option Nat} {y : Mv} {d : Md} {s : Sl} {B : Nat}
theorem Lm.later (h : Lm W w im ins ni nn) (hb : Below w.heap.size w w') : Lm W w' im ins ni nn := ⟨h.bel.trans (hb.mono h.bel.size), h.ri.later hb, h.rn.later hb⟩
theorem RdN.gbW {a : Option Addr} (h : RdN w a ns) (hW : RdN W a ns) (hg : w.grownBy w' row) (hb : ∀ b, row = some b → W.heap.size ≤ b) : RdN w' a ns :=
  h.pastR hg fun b e => by
    rcases hW with h0 | ⟨b', off, rfl, hb', _⟩
    · exact .inl h0
    · exact .inr fun ad e' => by cases e'; have := hb b e; show b' ≠ b; omega
theorem Lm.gb (h : Lm W w im ins ni nn) (h0 : Lm W W im ins ni nn) (hg : w.grownBy w' row) (hb : ∀ b, row = some b → W.heap.size ≤ b) : Lm W w' im ins ni nn := ⟨h.bel.grown hg h.bel.size (fun b e => hb b e), h.ri.gbW h0.ri hg hb, h.rn.gbW h0.rn hg hb⟩
theorem row_gb {g : Nat} {o : Obj} (h : w.heap[g]? = some o) (hg : w.grownBy w' row) (hn : ∀ b, row = some b → g ≠ b) : w'.heap[g]? = some o := (hg.block g (row_lt h) (fun e => hn g e.symm rfl)).trans h
theorem OwnM.gb (h : OwnM w B y d) (hg : w.grownBy w' row) (hn : ∀ b, row = some b → ¬ y.at b) : OwnM w' B y d := h.keepH fun g ha hl => hg.block g hl (fun e => hn g e.symm ha)
theorem OwnN.gb (h : OwnN w B s.v ns) (hg : w.grownBy w' row) (hn : ∀ b, row = some b → s.v.ownBlock ≠ some b) : OwnN w' B s.v ns := h.keep fun g hv hl => hg.block g hl (fun e => hn g e.symm hv)
end
end Go.Proofs.Ytjpbjbnialehbaa

namespace Go.Proofs.Ytjpbjbnialehbaa
open Go.ChangeShapes Go.WideShapes Go.ChangeAt Go.RowKit
set_option linter.unusedVariables false
set_option maxRecDepth 8000
set_option linter.unusedSimpArgs false
theorem Ez.set8 {w wr : World} {cb : Nat} {a : Option Addr} {len cap : Nat} {xs : List UInt8} {l : List Int} (h : Ez w wr cb a len cap xs 95 8 (c8 l)) (k : Nat) (x : Int) (l' : List Int) (he : ∀ j, j < 8 → (if j = k then Value.int .i64 x else c8 l j) = c8 l' j) : Ez w (wr.setCell ⟨w.heap.size, k, none⟩ (.int .i64 x)) cb a len cap xs 95 8 (c8 l') :=
  h.setR k _ _ (row8_set h.res k x he)
theorem Ez.put8 {w wr : World} {cb : Nat} {a : Option Addr} {len cap : Nat} {xs : List UInt8} {y0 y1 y2 y3 y4 y5 y6 y7 : Int} (h : Ez w wr cb a len cap xs 95 8 (c8 [y0, y1, y2, y3, y4, y5, y6, y7])) (x0 x1 x2 x3 x4 x5 x6 x7 : Int) :
    Ez w ((((((((wr.setCell ⟨w.heap.size, 0, none⟩ (.int .i64 x0)).setCell ⟨w.heap.size, 1, none⟩ (.int .i64 x1)).setCell ⟨w.heap.size, 2, none⟩ (.int .i64 x2)).setCell ⟨w.heap.size, 3, none⟩ (.int .i64 x3)).setCell ⟨w.heap.size, 4, none⟩ (.int .i64 x4)).setCell ⟨w.heap.size, 5, none⟩ (.int .i64 x5)).setCell ⟨w.heap.size, 6, none⟩ (.int .i64 x6)).setCell ⟨w.heap.size, 7, none⟩ (.int .i64 x7)) cb a len cap xs 95 8 (c8 [x0, x1, x2, x3, x4, x5, x6, x7]) :=
  ((((((((h.set8 0 x0 [x0, y1, y2, y3, y4, y5, y6, y7] (fun j hj => by rcases j with _ | _ | _ | _ | _ | _ | _ | _ | j <;> first | rfl | omega)).set8 1 x1 [x0, x1, y2, y3, y4, y5, y6, y7] (fun j hj => by rcases j with _ | _ | _ | _ | _ | _ | _ | _ | j <;> first | rfl | omega)).set8 2 x2 [x0, x1, x2, y3, y4, y5, y6, y7] (fun j hj => by rcases j with _ | _ | _ | _ | _ | _ | _ | _ | j <;> first | rfl | omega)).set8 3 x3 [x0, x1, x2, x3, y4, y5, y6, y7] (fun j hj => by rcases j with _ | _ | _ | _ | _ | _ | _ | _ | j <;> first | rfl | omega)).set8 4 x4 [x0, x1, x2, x3, x4, y5, y6, y7] (fun j hj => by rcases j with _ | _ | _ | _ | _ | _ | _ | _ | j <;> first | rfl | omega)).set8 5 x5 [x0, x1, x2, x3, x4, x5, y6, y7] (fun j hj => by rcases j with _ | _ | _ | _ | _ | _ | _ | _ | j <;> first | rfl | omega)).set8 6 x6 [x0, x1, x2, x3, x4, x5, x6, y7] (fun j hj => by rcases j with _ | _ | _ | _ | _ | _ | _ | _ | j <;> first | rfl | omega)).set8 7 x7 [x0, x1, x2, x3, x4, x5, x6, x7] (fun j hj => by rcases j with _ | _ | _ | _ | _ | _ | _ | _ | j <;> first | rfl | omega))
theorem ok_A {op n : Int} {s d : Od} (h : 1 ≤ op ∧ op ≤ 6) (hs : s.ok = true) (hd : d.ok = true) (hn : n = 0) : Is.ok ⟨op, s, d, n⟩ = true := by
  unfold Is.ok
  rw [if_pos (inB_t _ _ _ h)]
  simp [hs, hd, hn]
theorem ok_B {op n : Int} {d : Od} (h : 7 ≤ op ∧ op ≤ 14) (hd : d.ok = true) (hn : n = 0) : Is.ok ⟨op, ⟨0, 0, 0⟩, d, n⟩ = true := by
  unfold Is.ok
  rw [if_neg (by rw [inB_f _ _ _ (by simp only; omega)]; simp), if_pos (inB_t _ _ _ h)]
  simp [hd, hn, Od.zero]
theorem ok_C {op n : Int} {d : Od} (h : op = 15) (hd : d.ok = true) (hn : 0 ≤ n ∧ n ≤ 7) : Is.ok ⟨op, ⟨0, 0, 0⟩, d, n⟩ = true := by
  subst h
  simp [Is.ok, inB, Od.zero, hd, hn.1, hn.2]
theorem ok_D {op n : Int} (h : op = 16) (hn : 0 ≤ n ∧ n ≤ 7) : Is.ok ⟨op, ⟨0, 0, 0⟩, ⟨0, 0, 0⟩, n⟩ = true := by
  subst h
  simp [Is.ok, inB, Od.zero, hn.1, hn.2]
theorem ok_E {op n : Int} (h : 17 ≤ op ∧ op ≤ 21) (hn : -128 ≤ n ∧ n ≤ 127) : Is.ok ⟨op, ⟨0, 0, 0⟩, ⟨0, 0, 0⟩, n⟩ = true := by
  unfold Is.ok
  rw [if_neg (by rw [inB_f _ _ _ (by simp only; omega)]; simp), if_neg (by rw [inB_f _ _ _ (by simp only; omega)]; simp), if_neg (by simp only; rw [eqB_f _ _ (by omega)]; simp), if_neg (by simp [Od.zero]), if_neg (by simp only; rw [eqB_f _ _ (by omega)]; simp), if_pos (inB_t _ _ _ h), inB_t _ _ _ hn]
theorem ok_F {op : Int} (h : op = 22) : Is.ok ⟨op, ⟨0, 0, 0⟩, ⟨0, 0, 0⟩, 0⟩ = true := by
  subst h
  rfl
theorem ok_G {op n : Int} (h : op = 23) (hn : 0 ≤ n ∧ n ≤ 255) : Is.ok ⟨op, ⟨0, 0, 0⟩, ⟨0, 0, 0⟩, n⟩ = true := by
  subst h
  simp [Is.ok, inB, Od.zero, hn.1, hn.2]
theorem ns7_bd : ∀ i : Fin 7, -128 ≤ nAt [-128, 127, 0, -1, 1, 2, -3] i.val ∧ nAt [-128, 127, 0, -1, 1, 2, -3] i.val ≤ 127 := by decide +kernel
theorem ns4_bd : ∀ i : Fin 4, 0 ≤ nAt [0, 1, 2, 255] i.val ∧ nAt [0, 1, 2, 255] i.val ≤ 255 := by decide +kernel
set_option maxHeartbeats 8000000 in
set_option maxRecDepth 100000 in
theorem drawD_any (cb : Nat) (a : Option Addr) (len cap : Nat) (xs : List UInt8) (w : World) (hc : Cur w cb a len cap xs) :
    Calls Try.prog 70 #[.pointer (some ⟨cb, 0, none⟩)] w fun e w' => ∃ i : Is, i.ok = true ∧ e = .returned i.v ∧ Cur w' cb a len cap xs ∧ w.grownBy w' (some cb) := by
  have hlt := hc.lt
  have E0 := hide (ez_new hc (cs8 [0, 0, 0, 0, 0, 0, 0, 0]) 95 8 (c8 [0, 0, 0, 0, 0, 0, 0, 0]) (row8 w [0, 0, 0, 0, 0, 0, 0, 0] 95))
  have I0 := hide (below_any cb a len cap xs 23 (w.alloc (Obj.cells (cs8 [0, 0, 0, 0, 0, 0, 0, 0]) 95)) (by omega) (unhide E0).cur)
  clear hc
  go_enter Try.func70, Try.ntmps70
  go_wp2_with fail
  refine (unhide I0).mono ?_
  rintro e w1 ⟨y, hy0, hy1, rfl, hc1, hg1⟩
  obtain ⟨hy2, hy3⟩ := hy0 (by omega)
  obtain ⟨op, hop⟩ : ∃ op, 1 + y = op := ⟨_, rfl⟩
  have hob : 1 ≤ op ∧ op ≤ 23 := by omega
  have E1' := hide ((unhide E0).draw hc1 hg1)
  have E1 := hide ((unhide E1').alloc (Obj.cells (cs8 [op, 0, 0, 0, 0, 0, 0, 0]) 95))
  have R1 := hide (row8 w1 [op, 0, 0, 0, 0, 0, 0, 0] 95)
  have s1 : w.heap.size < w1.heap.size := (unhide E1').res.lt
  have hne : w.heap.size ≠ w1.heap.size := by omega
  clear hc1 hg1 I0 E0 hy0 hy1
  by_cases hA : op ≤ 6
  · have q6 : decide (op ≤ 6) = true := by simp; omega
    have q15 : decide (op ≤ 15) = true := by simp; omega
    have q1 : (op == 15) = false := eqB_f _ _ (by omega)
    have q2 : (op == 16) = false := eqB_f _ _ (by omega)
    have q3 : inB op 17 21 = false := inB_f _ _ _ (by omega)
    have q4 : (op == 23) = false := eqB_f _ _ (by omega)
    have P2 := hide (opdD_any cb a len cap xs _ (unhide E1).cur)
    go_wp2_with fail
    refine (unhide P2).mono ?_
    rintro e w2 ⟨⟨sm, sr, sx⟩, oks, rfl, hc, hg⟩
    unfold Od.v
    simp only
    have EE := hide ((unhide E1).draw hc hg)
    have RR := hide (row_draw (unhide R1) hg (by omega))
    clear hc hg P2
    have rr := unhide RR
    have x0 : w2.cell? ⟨w1.heap.size, 0, none⟩ = some (.int .i64 (op)) := rr.cell (i := 0) (by omega)
    have g0 := rr.frozen 0
    have x1 : w2.cell? ⟨w1.heap.size, 1, none⟩ = some (.int .i64 (0)) := rr.cell (i := 1) (by omega)
    have g1 := rr.frozen 1
    have x2 : w2.cell? ⟨w1.heap.size, 2, none⟩ = some (.int .i64 (0)) := rr.cell (i := 2) (by omega)
    have g2 := rr.frozen 2
    have x3 : w2.cell? ⟨w1.heap.size, 3, none⟩ = some (.int .i64 (0)) := rr.cell (i := 3) (by omega)
    have g3 := rr.frozen 3
    have x4 : w2.cell? ⟨w1.heap.size, 4, none⟩ = some (.int .i64 (0)) := rr.cell (i := 4) (by omega)
    have g4 := rr.frozen 4
    have x5 : w2.cell? ⟨w1.heap.size, 5, none⟩ = some (.int .i64 (0)) := rr.cell (i := 5) (by omega)
    have g5 := rr.frozen 5
    have x6 : w2.cell? ⟨w1.heap.size, 6, none⟩ = some (.int .i64 (0)) := rr.cell (i := 6) (by omega)
    have g6 := rr.frozen 6
    have x7 : w2.cell? ⟨w1.heap.size, 7, none⟩ = some (.int .i64 (0)) := rr.cell (i := 7) (by omega)
    have g7 := rr.frozen 7
    clear rr
    have E2 := hide ((((unhide EE).setO s1 1 (.int .i64 sm)).setO s1 2 (.int .i64 sr)).setO s1 3 (.int .i64 sx))
    have R2 := hide (row8_set (l' := [op, sm, sr, sx, 0, 0, 0, 0]) (row8_set (l' := [op, sm, sr, 0, 0, 0, 0, 0]) (row8_set (l' := [op, sm, 0, 0, 0, 0, 0, 0]) (unhide RR) 1 sm (fun j hj => by rcases j with _ | _ | _ | _ | _ | _ | _ | _ | j <;> first | rfl | omega)) 2 sr (fun j hj => by rcases j with _ | _ | _ | _ | _ | _ | _ | _ | j <;> first | rfl | omega)) 3 sx (fun j hj => by rcases j with _ | _ | _ | _ | _ | _ | _ | _ | j <;> first | rfl | omega))
    have EB2 := EE
    clear EE RR
    have P3 := hide (opdD_any cb a len cap xs _ (unhide E2).cur)
    go_wp2_with fail
    refine (unhide P3).mono ?_
    rintro e w3 ⟨⟨dm, dr, dx⟩, okd, rfl, hc, hg⟩
    unfold Od.v
    simp only
    have EE := hide ((unhide E2).draw hc hg)
    have RR := hide (row_draw (unhide R2) hg (by omega))
    clear hc hg P3
    clear x0 g0 x1 g1 x2 g2 x3 g3 x4 g4 x5 g5 x6 g6 x7 g7
    have rr := unhide RR
    have x0 : w3.cell? ⟨w1.heap.size, 0, none⟩ = some (.int .i64 (op)) := rr.cell (i := 0) (by omega)
    have g0 := rr.frozen 0
    have x1 : w3.cell? ⟨w1.heap.size, 1, none⟩ = some (.int .i64 (sm)) := rr.cell (i := 1) (by omega)
    have g1 := rr.frozen 1
    have x2 : w3.cell? ⟨w1.heap.size, 2, none⟩ = some (.int .i64 (sr)) := rr.cell (i := 2) (by omega)
    have g2 := rr.frozen 2
    have x3 : w3.cell? ⟨w1.heap.size, 3, none⟩ = some (.int .i64 (sx)) := rr.cell (i := 3) (by omega)
    have g3 := rr.frozen 3
    have x4 : w3.cell? ⟨w1.heap.size, 4, none⟩ = some (.int .i64 (0)) := rr.cell (i := 4) (by omega)
    have g4 := rr.frozen 4
    have x5 : w3.cell? ⟨w1.heap.size, 5, none⟩ = some (.int .i64 (0)) := rr.cell (i := 5) (by omega)
    have g5 := rr.frozen 5
    have x6 : w3.cell? ⟨w1.heap.size, 6, none⟩ = some (.int .i64 (0)) := rr.cell (i := 6) (by omega)
    have g6 := rr.frozen 6
    have x7 : w3.cell? ⟨w1.heap.size, 7, none⟩ = some (.int .i64 (0)) := rr.cell (i := 7) (by omega)
    have g7 := rr.frozen 7
    clear rr
    have E3 := hide ((((unhide EE).setO s1 4 (.int .i64 dm)).setO s1 5 (.int .i64 dr)).setO s1 6 (.int .i64 dx))
    have R3 := hide (row8_set (l' := [op, sm, sr, sx, dm, dr, dx, 0]) (row8_set (l' := [op, sm, sr, sx, dm, dr, 0, 0]) (row8_set (l' := [op, sm, sr, sx, dm, 0, 0, 0]) (unhide RR) 4 dm (fun j hj => by rcases j with _ | _ | _ | _ | _ | _ | _ | _ | j <;> first | rfl | omega)) 5 dr (fun j hj => by rcases j with _ | _ | _ | _ | _ | _ | _ | _ | j <;> first | rfl | omega)) 6 dx (fun j hj => by rcases j with _ | _ | _ | _ | _ | _ | _ | _ | j <;> first | rfl | omega))
    have EB3 := EE
    clear EE RR
    have ee := (unhide EB3).res
    have c0 : w3.cell? ⟨w.heap.size, 0, none⟩ = some (.int .i64 0) := ee.cell (i := 0) (by omega)
    have f0 := ee.frozen 0
    have c1 : w3.cell? ⟨w.heap.size, 1, none⟩ = some (.int .i64 0) := ee.cell (i := 1) (by omega)
    have f1 := ee.frozen 1
    have c2 : w3.cell? ⟨w.heap.size, 2, none⟩ = some (.int .i64 0) := ee.cell (i := 2) (by omega)
    have f2 := ee.frozen 2
    have c3 : w3.cell? ⟨w.heap.size, 3, none⟩ = some (.int .i64 0) := ee.cell (i := 3) (by omega)
    have f3 := ee.frozen 3
    have c4 : w3.cell? ⟨w.heap.size, 4, none⟩ = some (.int .i64 0) := ee.cell (i := 4) (by omega)
    have f4 := ee.frozen 4
    have c5 : w3.cell? ⟨w.heap.size, 5, none⟩ = some (.int .i64 0) := ee.cell (i := 5) (by omega)
    have f5 := ee.frozen 5
    have c6 : w3.cell? ⟨w.heap.size, 6, none⟩ = some (.int .i64 0) := ee.cell (i := 6) (by omega)
    have f6 := ee.frozen 6
    have c7 : w3.cell? ⟨w.heap.size, 7, none⟩ = some (.int .i64 0) := ee.cell (i := 7) (by omega)
    have f7 := ee.frozen 7
    clear ee
    have EF := hide ((unhide E3).put8 (op) (sm) (sr) (sx) (dm) (dr) (dx) (0))
    go_wp2_with (go_at_call 46; refine (in_any _ _ _ _).mono ?_; rintro e w' ⟨rfl, hw'⟩; rw [hw']; clear hw' w')
    refine bodyPost_ret (results_cell_row (P := Try.prog) rfl _ _ w.heap.size 95 (cs8 [op, sm, sr, sx, dm, dr, dx, 0]) (0, 0) _ rfl (row8_heap (unhide EF).res) Try.underlying95 rfl (by kernel_rfl)) rfl ?_
    exact ⟨⟨op, ⟨sm, sr, sx⟩, ⟨dm, dr, dx⟩, 0⟩, ok_A (by omega) oks okd rfl, rfl, (unhide EF).cur, (unhide EF).gr⟩
  by_cases hB : op ≤ 14
  · have q6 : decide (op ≤ 6) = false := by simp; omega
    have q15 : decide (op ≤ 15) = true := by simp; omega
    have q1 : (op == 15) = false := eqB_f _ _ (by omega)
    have q2 : (op == 16) = false := eqB_f _ _ (by omega)
    have q3 : inB op 17 21 = false := inB_f _ _ _ (by omega)
    have q4 : (op == 23) = false := eqB_f _ _ (by omega)
    have P2 := hide (opdD_any cb a len cap xs _ (unhide E1).cur)
    go_wp2_with fail
    refine (unhide P2).mono ?_
    rintro e w2 ⟨⟨dm, dr, dx⟩, okd, rfl, hc, hg⟩
    unfold Od.v
    simp only
    have EE := hide ((unhide E1).draw hc hg)
    have RR := hide (row_draw (unhide R1) hg (by omega))
    clear hc hg P2
    have rr := unhide RR
    have x0 : w2.cell? ⟨w1.heap.size, 0, none⟩ = some (.int .i64 (op)) := rr.cell (i := 0) (by omega)
    have g0 := rr.frozen 0
    have x1 : w2.cell? ⟨w1.heap.size, 1, none⟩ = some (.int .i64 (0)) := rr.cell (i := 1) (by omega)
    have g1 := rr.frozen 1
    have x2 : w2.cell? ⟨w1.heap.size, 2, none⟩ = some (.int .i64 (0)) := rr.cell (i := 2) (by omega)
    have g2 := rr.frozen 2
    have x3 : w2.cell? ⟨w1.heap.size, 3, none⟩ = some (.int .i64 (0)) := rr.cell (i := 3) (by omega)
    have g3 := rr.frozen 3
    have x4 : w2.cell? ⟨w1.heap.size, 4, none⟩ = some (.int .i64 (0)) := rr.cell (i := 4) (by omega)
    have g4 := rr.frozen 4
    have x5 : w2.cell? ⟨w1.heap.size, 5, none⟩ = some (.int .i64 (0)) := rr.cell (i := 5) (by omega)
    have g5 := rr.frozen 5
    have x6 : w2.cell? ⟨w1.heap.size, 6, none⟩ = some (.int .i64 (0)) := rr.cell (i := 6) (by omega)
    have g6 := rr.frozen 6
    have x7 : w2.cell? ⟨w1.heap.size, 7, none⟩ = some (.int .i64 (0)) := rr.cell (i := 7) (by omega)
    have g7 := rr.frozen 7
    clear rr
    have E2 := hide ((((unhide EE).setO s1 4 (.int .i64 dm)).setO s1 5 (.int .i64 dr)).setO s1 6 (.int .i64 dx))
    have R2 := hide (row8_set (l' := [op, 0, 0, 0, dm, dr, dx, 0]) (row8_set (l' := [op, 0, 0, 0, dm, dr, 0, 0]) (row8_set (l' := [op, 0, 0, 0, dm, 0, 0, 0]) (unhide RR) 4 dm (fun j hj => by rcases j with _ | _ | _ | _ | _ | _ | _ | _ | j <;> first | rfl | omega)) 5 dr (fun j hj => by rcases j with _ | _ | _ | _ | _ | _ | _ | _ | j <;> first | rfl | omega)) 6 dx (fun j hj => by rcases j with _ | _ | _ | _ | _ | _ | _ | _ | j <;> first | rfl | omega))
    have EB2 := EE
    clear EE RR
    have ee := (unhide EB2).res
    have c0 : w2.cell? ⟨w.heap.size, 0, none⟩ = some (.int .i64 0) := ee.cell (i := 0) (by omega)
    have f0 := ee.frozen 0
    have c1 : w2.cell? ⟨w.heap.size, 1, none⟩ = some (.int .i64 0) := ee.cell (i := 1) (by omega)
    have f1 := ee.frozen 1
    have c2 : w2.cell? ⟨w.heap.size, 2, none⟩ = some (.int .i64 0) := ee.cell (i := 2) (by omega)
    have f2 := ee.frozen 2
    have c3 : w2.cell? ⟨w.heap.size, 3, none⟩ = some (.int .i64 0) := ee.cell (i := 3) (by omega)
    have f3 := ee.frozen 3
    have c4 : w2.cell? ⟨w.heap.size, 4, none⟩ = some (.int .i64 0) := ee.cell (i := 4) (by omega)
    have f4 := ee.frozen 4
    have c5 : w2.cell? ⟨w.heap.size, 5, none⟩ = some (.int .i64 0) := ee.cell (i := 5) (by omega)
    have f5 := ee.frozen 5
    have c6 : w2.cell? ⟨w.heap.size, 6, none⟩ = some (.int .i64 0) := ee.cell (i := 6) (by omega)
    have f6 := ee.frozen 6
    have c7 : w2.cell? ⟨w.heap.size, 7, none⟩ = some (.int .i64 0) := ee.cell (i := 7) (by omega)
    have f7 := ee.frozen 7
    clear ee
    have EF := hide ((unhide E2).put8 (op) (0) (0) (0) (dm) (dr) (dx) (0))
    go_wp2_with (go_at_call 46; refine (in_any _ _ _ _).mono ?_; rintro e w' ⟨rfl, hw'⟩; rw [hw']; clear hw' w')
    refine bodyPost_ret (results_cell_row (P := Try.prog) rfl _ _ w.heap.size 95 (cs8 [op, 0, 0, 0, dm, dr, dx, 0]) (0, 0) _ rfl (row8_heap (unhide EF).res) Try.underlying95 rfl (by kernel_rfl)) rfl ?_
    exact ⟨⟨op, ⟨0, 0, 0⟩, ⟨dm, dr, dx⟩, 0⟩, ok_B (by omega) okd rfl, rfl, (unhide EF).cur, (unhide EF).gr⟩
  by_cases hC : op ≤ 15
  · have q6 : decide (op ≤ 6) = false := by simp; omega
    have q15 : decide (op ≤ 15) = true := by simp; omega
    have q1 : (op == 15) = true := eqB_t _ _ (by omega)
    have P2 := hide (opdD_any cb a len cap xs _ (unhide E1).cur)
    go_wp2_with fail
    refine (unhide P2).mono ?_
    rintro e w2 ⟨⟨dm, dr, dx⟩, okd, rfl, hc, hg⟩
    unfold Od.v
    simp only
    have EE := hide ((unhide E1).draw hc hg)
    have RR := hide (row_draw (unhide R1) hg (by omega))
    clear hc hg P2
    have rr := unhide RR
    have x0 : w2.cell? ⟨w1.heap.size, 0, none⟩ = some (.int .i64 (op)) := rr.cell (i := 0) (by omega)
    have g0 := rr.frozen 0
    have x1 : w2.cell? ⟨w1.heap.size, 1, none⟩ = some (.int .i64 (0)) := rr.cell (i := 1) (by omega)
    have g1 := rr.frozen 1
    have x2 : w2.cell? ⟨w1.heap.size, 2, none⟩ = some (.int .i64 (0)) := rr.cell (i := 2) (by omega)
    have g2 := rr.frozen 2
    have x3 : w2.cell? ⟨w1.heap.size, 3, none⟩ = some (.int .i64 (0)) := rr.cell (i := 3) (by omega)
    have g3 := rr.frozen 3
    have x4 : w2.cell? ⟨w1.heap.size, 4, none⟩ = some (.int .i64 (0)) := rr.cell (i := 4) (by omega)
    have g4 := rr.frozen 4
    have x5 : w2.cell? ⟨w1.heap.size, 5, none⟩ = some (.int .i64 (0)) := rr.cell (i := 5) (by omega)
    have g5 := rr.frozen 5
    have x6 : w2.cell? ⟨w1.heap.size, 6, none⟩ = some (.int .i64 (0)) := rr.cell (i := 6) (by omega)
    have g6 := rr.frozen 6
    have x7 : w2.cell? ⟨w1.heap.size, 7, none⟩ = some (.int .i64 (0)) := rr.cell (i := 7) (by omega)
    have g7 := rr.frozen 7
    clear rr
    have E2 := hide ((((unhide EE).setO s1 4 (.int .i64 dm)).setO s1 5 (.int .i64 dr)).setO s1 6 (.int .i64 dx))
    have R2 := hide (row8_set (l' := [op, 0, 0, 0, dm, dr, dx, 0]) (row8_set (l' := [op, 0, 0, 0, dm, dr, 0, 0]) (row8_set (l' := [op, 0, 0, 0, dm, 0, 0, 0]) (unhide RR) 4 dm (fun j hj => by rcases j with _ | _ | _ | _ | _ | _ | _ | _ | j <;> first | rfl | omega)) 5 dr (fun j hj => by rcases j with _ | _ | _ | _ | _ | _ | _ | _ | j <;> first | rfl | omega)) 6 dx (fun j hj => by rcases j with _ | _ | _ | _ | _ | _ | _ | _ | j <;> first | rfl | omega))
    have EB2 := EE
    clear EE RR
    have P9 := hide (below_any cb a len cap xs 8 _ (by omega) (unhide E2).cur)
    go_wp2_with (go_at_call 46; refine (in_any _ _ _ _).mono ?_; rintro e w' ⟨rfl, hw'⟩; rw [hw']; clear hw' w')
    refine (unhide P9).mono ?_
    rintro e w9 ⟨n, hn0, hn1, rfl, hc, hg⟩
    obtain ⟨hn2, hn3⟩ := hn0 (by omega)
    have E9' := hide ((unhide E2).draw hc hg)
    have R9 := hide (row_draw (unhide R2) hg (by omega))
    clear hc hg P9 hn0 hn1
    clear x0 g0 x1 g1 x2 g2 x3 g3 x4 g4 x5 g5 x6 g6 x7 g7
    have rr := unhide R9
    have x0 : w9.cell? ⟨w1.heap.size, 0, none⟩ = some (.int .i64 (op)) := rr.cell (i := 0) (by omega)
    have g0 := rr.frozen 0
    have x1 : w9.cell? ⟨w1.heap.size, 1, none⟩ = some (.int .i64 (0)) := rr.cell (i := 1) (by omega)
    have g1 := rr.frozen 1
    have x2 : w9.cell? ⟨w1.heap.size, 2, none⟩ = some (.int .i64 (0)) := rr.cell (i := 2) (by omega)
    have g2 := rr.frozen 2
    have x3 : w9.cell? ⟨w1.heap.size, 3, none⟩ = some (.int .i64 (0)) := rr.cell (i := 3) (by omega)
    have g3 := rr.frozen 3
    have x4 : w9.cell? ⟨w1.heap.size, 4, none⟩ = some (.int .i64 (dm)) := rr.cell (i := 4) (by omega)
    have g4 := rr.frozen 4
    have x5 : w9.cell? ⟨w1.heap.size, 5, none⟩ = some (.int .i64 (dr)) := rr.cell (i := 5) (by omega)
    have g5 := rr.frozen 5
    have x6 : w9.cell? ⟨w1.heap.size, 6, none⟩ = some (.int .i64 (dx)) := rr.cell (i := 6) (by omega)
    have g6 := rr.frozen 6
    have x7 : w9.cell? ⟨w1.heap.size, 7, none⟩ = some (.int .i64 (0)) := rr.cell (i := 7) (by omega)
    have g7 := rr.frozen 7
    clear rr
    have E9 := hide ((unhide E9').setO s1 7 (.int .i64 n))
    have ee := (unhide E9').res
    have c0 : w9.cell? ⟨w.heap.size, 0, none⟩ = some (.int .i64 0) := ee.cell (i := 0) (by omega)
    have f0 := ee.frozen 0
    have c1 : w9.cell? ⟨w.heap.size, 1, none⟩ = some (.int .i64 0) := ee.cell (i := 1) (by omega)
    have f1 := ee.frozen 1
    have c2 : w9.cell? ⟨w.heap.size, 2, none⟩ = some (.int .i64 0) := ee.cell (i := 2) (by omega)
    have f2 := ee.frozen 2
    have c3 : w9.cell? ⟨w.heap.size, 3, none⟩ = some (.int .i64 0) := ee.cell (i := 3) (by omega)
    have f3 := ee.frozen 3
    have c4 : w9.cell? ⟨w.heap.size, 4, none⟩ = some (.int .i64 0) := ee.cell (i := 4) (by omega)
    have f4 := ee.frozen 4
    have c5 : w9.cell? ⟨w.heap.size, 5, none⟩ = some (.int .i64 0) := ee.cell (i := 5) (by omega)
    have f5 := ee.frozen 5
    have c6 : w9.cell? ⟨w.heap.size, 6, none⟩ = some (.int .i64 0) := ee.cell (i := 6) (by omega)
    have f6 := ee.frozen 6
    have c7 : w9.cell? ⟨w.heap.size, 7, none⟩ = some (.int .i64 0) := ee.cell (i := 7) (by omega)
    have f7 := ee.frozen 7
    clear ee
    have EF := hide ((unhide E9).put8 (op) (0) (0) (0) (dm) (dr) (dx) (n))
    go_wp2_with (go_at_call 46; refine (in_any _ _ _ _).mono ?_; rintro e w' ⟨rfl, hw'⟩; rw [hw']; clear hw' w')
    refine bodyPost_ret (results_cell_row (P := Try.prog) rfl _ _ w.heap.size 95 (cs8 [op, 0, 0, 0, dm, dr, dx, n]) (0, 0) _ rfl (row8_heap (unhide EF).res) Try.underlying95 rfl (by kernel_rfl)) rfl ?_
    exact ⟨⟨op, ⟨0, 0, 0⟩, ⟨dm, dr, dx⟩, n⟩, ok_C (by omega) okd (by omega), rfl, (unhide EF).cur, (unhide EF).gr⟩
  by_cases hD : op ≤ 16
  · have q6 : decide (op ≤ 6) = false := by simp; omega
    have q15 : decide (op ≤ 15) = false := by simp; omega
    have q1 : (op == 15) = false := eqB_f _ _ (by omega)
    have q2 : (op == 16) = true := eqB_t _ _ (by omega)
    have P9 := hide (below_any cb a len cap xs 8 _ (by omega) (unhide E1).cur)
    go_wp2_with (go_at_call 46; refine (in_any _ _ _ _).mono ?_; rintro e w' ⟨rfl, hw'⟩; rw [hw']; clear hw' w')
    refine (unhide P9).mono ?_
    rintro e w9 ⟨n, hn0, hn1, rfl, hc, hg⟩
    obtain ⟨hn2, hn3⟩ := hn0 (by omega)
    have E9' := hide ((unhide E1).draw hc hg)
    have R9 := hide (row_draw (unhide R1) hg (by omega))
    clear hc hg P9 hn0 hn1
    have rr := unhide R9
    have x0 : w9.cell? ⟨w1.heap.size, 0, none⟩ = some (.int .i64 (op)) := rr.cell (i := 0) (by omega)
    have g0 := rr.frozen 0
    have x1 : w9.cell? ⟨w1.heap.size, 1, none⟩ = some (.int .i64 (0)) := rr.cell (i := 1) (by omega)
    have g1 := rr.frozen 1
    have x2 : w9.cell? ⟨w1.heap.size, 2, none⟩ = some (.int .i64 (0)) := rr.cell (i := 2) (by omega)
    have g2 := rr.frozen 2
    have x3 : w9.cell? ⟨w1.heap.size, 3, none⟩ = some (.int .i64 (0)) := rr.cell (i := 3) (by omega)
    have g3 := rr.frozen 3
    have x4 : w9.cell? ⟨w1.heap.size, 4, none⟩ = some (.int .i64 (0)) := rr.cell (i := 4) (by omega)
    have g4 := rr.frozen 4
    have x5 : w9.cell? ⟨w1.heap.size, 5, none⟩ = some (.int .i64 (0)) := rr.cell (i := 5) (by omega)
    have g5 := rr.frozen 5
    have x6 : w9.cell? ⟨w1.heap.size, 6, none⟩ = some (.int .i64 (0)) := rr.cell (i := 6) (by omega)
    have g6 := rr.frozen 6
    have x7 : w9.cell? ⟨w1.heap.size, 7, none⟩ = some (.int .i64 (0)) := rr.cell (i := 7) (by omega)
    have g7 := rr.frozen 7
    clear rr
    have E9 := hide ((unhide E9').setO s1 7 (.int .i64 n))
    have ee := (unhide E9').res
    have c0 : w9.cell? ⟨w.heap.size, 0, none⟩ = some (.int .i64 0) := ee.cell (i := 0) (by omega)
    have f0 := ee.frozen 0
    have c1 : w9.cell? ⟨w.heap.size, 1, none⟩ = some (.int .i64 0) := ee.cell (i := 1) (by omega)
    have f1 := ee.frozen 1
    have c2 : w9.cell? ⟨w.heap.size, 2, none⟩ = some (.int .i64 0) := ee.cell (i := 2) (by omega)
    have f2 := ee.frozen 2
    have c3 : w9.cell? ⟨w.heap.size, 3, none⟩ = some (.int .i64 0) := ee.cell (i := 3) (by omega)
    have f3 := ee.frozen 3
    have c4 : w9.cell? ⟨w.heap.size, 4, none⟩ = some (.int .i64 0) := ee.cell (i := 4) (by omega)
    have f4 := ee.frozen 4
    have c5 : w9.cell? ⟨w.heap.size, 5, none⟩ = some (.int .i64 0) := ee.cell (i := 5) (by omega)
    have f5 := ee.frozen 5
    have c6 : w9.cell? ⟨w.heap.size, 6, none⟩ = some (.int .i64 0) := ee.cell (i := 6) (by omega)
    have f6 := ee.frozen 6
    have c7 : w9.cell? ⟨w.heap.size, 7, none⟩ = some (.int .i64 0) := ee.cell (i := 7) (by omega)
    have f7 := ee.frozen 7
    clear ee
    have EF := hide ((unhide E9).put8 (op) (0) (0) (0) (0) (0) (0) (n))
    go_wp2_with (go_at_call 46; refine (in_any _ _ _ _).mono ?_; rintro e w' ⟨rfl, hw'⟩; rw [hw']; clear hw' w')
    refine bodyPost_ret (results_cell_row (P := Try.prog) rfl _ _ w.heap.size 95 (cs8 [op, 0, 0, 0, 0, 0, 0, n]) (0, 0) _ rfl (row8_heap (unhide EF).res) Try.underlying95 rfl (by kernel_rfl)) rfl ?_
    exact ⟨⟨op, ⟨0, 0, 0⟩, ⟨0, 0, 0⟩, n⟩, ok_D (by omega) (by omega), rfl, (unhide EF).cur, (unhide EF).gr⟩
  by_cases hE : op ≤ 21
  · have q6 : decide (op ≤ 6) = false := by simp; omega
    have q15 : decide (op ≤ 15) = false := by simp; omega
    have q1 : (op == 15) = false := eqB_f _ _ (by omega)
    have q2 : (op == 16) = false := eqB_f _ _ (by omega)
    have q3 : inB op 17 21 = true := inB_t _ _ _ (by omega)
    have P9 := hide (int_lit cb a len cap xs (w1.alloc (Obj.cells (cs8 [op, 0, 0, 0, 0, 0, 0, 0]) 95)) (unhide E1).cur [-128, 127, 0, -1, 1, 2, -3] 7 rfl (by omega) (by omega) (w1.heap.size + 1) (by simp) _ rfl)
    go_wp2_with (go_at_call 46; refine (in_any _ _ _ _).mono ?_; rintro e w' ⟨rfl, hw'⟩; rw [hw']; clear hw' w')
    refine (unhide P9).mono ?_
    rintro e w9 ⟨j, hj, rfl, hc, hg⟩
    have hnb := ns7_bd ⟨j, hj⟩
    simp only at hnb
    generalize nAt [-128, 127, 0, -1, 1, 2, -3] j = n at hnb ⊢
    have E9' := hide (((unhide E1).alloc _).draw hc hg)
    have R9 := hide (row_draw (row_alloc (unhide R1) _) hg (by omega))
    clear hc hg P9 hj
    have rr := unhide R9
    have x0 : w9.cell? ⟨w1.heap.size, 0, none⟩ = some (.int .i64 (op)) := rr.cell (i := 0) (by omega)
    have g0 := rr.frozen 0
    have x1 : w9.cell? ⟨w1.heap.size, 1, none⟩ = some (.int .i64 (0)) := rr.cell (i := 1) (by omega)
    have g1 := rr.frozen 1
    have x2 : w9.cell? ⟨w1.heap.size, 2, none⟩ = some (.int .i64 (0)) := rr.cell (i := 2) (by omega)
    have g2 := rr.frozen 2
    have x3 : w9.cell? ⟨w1.heap.size, 3, none⟩ = some (.int .i64 (0)) := rr.cell (i := 3) (by omega)
    have g3 := rr.frozen 3
    have x4 : w9.cell? ⟨w1.heap.size, 4, none⟩ = some (.int .i64 (0)) := rr.cell (i := 4) (by omega)
    have g4 := rr.frozen 4
    have x5 : w9.cell? ⟨w1.heap.size, 5, none⟩ = some (.int .i64 (0)) := rr.cell (i := 5) (by omega)
    have g5 := rr.frozen 5
    have x6 : w9.cell? ⟨w1.heap.size, 6, none⟩ = some (.int .i64 (0)) := rr.cell (i := 6) (by omega)
    have g6 := rr.frozen 6
    have x7 : w9.cell? ⟨w1.heap.size, 7, none⟩ = some (.int .i64 (0)) := rr.cell (i := 7) (by omega)
    have g7 := rr.frozen 7
    clear rr
    have E9 := hide ((unhide E9').setO s1 7 (.int .i64 n))
    have ee := (unhide E9').res
    have c0 : w9.cell? ⟨w.heap.size, 0, none⟩ = some (.int .i64 0) := ee.cell (i := 0) (by omega)
    have f0 := ee.frozen 0
    have c1 : w9.cell? ⟨w.heap.size, 1, none⟩ = some (.int .i64 0) := ee.cell (i := 1) (by omega)
    have f1 := ee.frozen 1
    have c2 : w9.cell? ⟨w.heap.size, 2, none⟩ = some (.int .i64 0) := ee.cell (i := 2) (by omega)
    have f2 := ee.frozen 2
    have c3 : w9.cell? ⟨w.heap.size, 3, none⟩ = some (.int .i64 0) := ee.cell (i := 3) (by omega)
    have f3 := ee.frozen 3
    have c4 : w9.cell? ⟨w.heap.size, 4, none⟩ = some (.int .i64 0) := ee.cell (i := 4) (by omega)
    have f4 := ee.frozen 4
    have c5 : w9.cell? ⟨w.heap.size, 5, none⟩ = some (.int .i64 0) := ee.cell (i := 5) (by omega)
    have f5 := ee.frozen 5
    have c6 : w9.cell? ⟨w.heap.size, 6, none⟩ = some (.int .i64 0) := ee.cell (i := 6) (by omega)
    have f6 := ee.frozen 6
    have c7 : w9.cell? ⟨w.heap.size, 7, none⟩ = some (.int .i64 0) := ee.cell (i := 7) (by omega)
    have f7 := ee.frozen 7
    clear ee
    have EF := hide ((unhide E9).put8 (op) (0) (0) (0) (0) (0) (0) (n))
    go_wp2_with (go_at_call 46; refine (in_any _ _ _ _).mono ?_; rintro e w' ⟨rfl, hw'⟩; rw [hw']; clear hw' w')
    refine bodyPost_ret (results_cell_row (P := Try.prog) rfl _ _ w.heap.size 95 (cs8 [op, 0, 0, 0, 0, 0, 0, n]) (0, 0) _ rfl (row8_heap (unhide EF).res) Try.underlying95 rfl (by kernel_rfl)) rfl ?_
    exact ⟨⟨op, ⟨0, 0, 0⟩, ⟨0, 0, 0⟩, n⟩, ok_E (by omega) hnb, rfl, (unhide EF).cur, (unhide EF).gr⟩
  by_cases hF : op ≤ 22
  · have q6 : decide (op ≤ 6) = false := by simp; omega
    have q15 : decide (op ≤ 15) = false := by simp; omega
    have q1 : (op == 15) = false := eqB_f _ _ (by omega)
    have q2 : (op == 16) = false := eqB_f _ _ (by omega)
    have q3 : inB op 17 21 = false := inB_f _ _ _ (by omega)
    have q4 : (op == 23) = false := eqB_f _ _ (by omega)
    clear s1 hne
    have ee : ∀ o, (w1.alloc o).rowIs w.heap.size 95 8 (c8 [0, 0, 0, 0, 0, 0, 0, 0]) := fun o => ((unhide E1').alloc o).res
    have c0 : ∀ o, (w1.alloc o).cell? ⟨w.heap.size, 0, none⟩ = some (.int .i64 0) := fun o => (ee o).cell (i := 0) (by omega)
    have f0 : ∀ o, (w1.alloc o).frozen? ⟨w.heap.size, 0, none⟩ = false := fun o => (ee o).frozen 0
    have c1 : ∀ o, (w1.alloc o).cell? ⟨w.heap.size, 1, none⟩ = some (.int .i64 0) := fun o => (ee o).cell (i := 1) (by omega)
    have f1 : ∀ o, (w1.alloc o).frozen? ⟨w.heap.size, 1, none⟩ = false := fun o => (ee o).frozen 1
    have c2 : ∀ o, (w1.alloc o).cell? ⟨w.heap.size, 2, none⟩ = some (.int .i64 0) := fun o => (ee o).cell (i := 2) (by omega)
    have f2 : ∀ o, (w1.alloc o).frozen? ⟨w.heap.size, 2, none⟩ = false := fun o => (ee o).frozen 2
    have c3 : ∀ o, (w1.alloc o).cell? ⟨w.heap.size, 3, none⟩ = some (.int .i64 0) := fun o => (ee o).cell (i := 3) (by omega)
    have f3 : ∀ o, (w1.alloc o).frozen? ⟨w.heap.size, 3, none⟩ = false := fun o => (ee o).frozen 3
    have c4 : ∀ o, (w1.alloc o).cell? ⟨w.heap.size, 4, none⟩ = some (.int .i64 0) := fun o => (ee o).cell (i := 4) (by omega)
    have f4 : ∀ o, (w1.alloc o).frozen? ⟨w.heap.size, 4, none⟩ = false := fun o => (ee o).frozen 4
    have c5 : ∀ o, (w1.alloc o).cell? ⟨w.heap.size, 5, none⟩ = some (.int .i64 0) := fun o => (ee o).cell (i := 5) (by omega)
    have f5 : ∀ o, (w1.alloc o).frozen? ⟨w.heap.size, 5, none⟩ = false := fun o => (ee o).frozen 5
    have c6 : ∀ o, (w1.alloc o).cell? ⟨w.heap.size, 6, none⟩ = some (.int .i64 0) := fun o => (ee o).cell (i := 6) (by omega)
    have f6 : ∀ o, (w1.alloc o).frozen? ⟨w.heap.size, 6, none⟩ = false := fun o => (ee o).frozen 6
    have c7 : ∀ o, (w1.alloc o).cell? ⟨w.heap.size, 7, none⟩ = some (.int .i64 0) := fun o => (ee o).cell (i := 7) (by omega)
    have f7 : ∀ o, (w1.alloc o).frozen? ⟨w.heap.size, 7, none⟩ = false := fun o => (ee o).frozen 7
    clear ee
    have EF := hide ((unhide E1).put8 (op) (0) (0) (0) (0) (0) (0) (0))
    go_wp2_with (go_at_call 46; refine (in_any _ _ _ _).mono ?_; rintro e w' ⟨rfl, hw'⟩; rw [hw']; clear hw' w')
    refine bodyPost_ret (results_cell_row (P := Try.prog) rfl _ _ w.heap.size 95 (cs8 [op, 0, 0, 0, 0, 0, 0, 0]) (0, 0) _ rfl (row8_heap (unhide EF).res) Try.underlying95 rfl (by kernel_rfl)) rfl ?_
    exact ⟨⟨op, ⟨0, 0, 0⟩, ⟨0, 0, 0⟩, 0⟩, ok_F (by omega), rfl, (unhide EF).cur, (unhide EF).gr⟩
  have q6 : decide (op ≤ 6) = false := by simp; omega
  have q15 : decide (op ≤ 15) = false := by simp; omega
  have q1 : (op == 15) = false := eqB_f _ _ (by omega)
  have q2 : (op == 16) = false := eqB_f _ _ (by omega)
  have q3 : inB op 17 21 = false := inB_f _ _ _ (by omega)
  have q4 : (op == 23) = true := eqB_t _ _ (by omega)
  have P9 := hide (int_lit cb a len cap xs (w1.alloc (Obj.cells (cs8 [op, 0, 0, 0, 0, 0, 0, 0]) 95)) (unhide E1).cur [0, 1, 2, 255] 4 rfl (by omega) (by omega) (w1.heap.size + 1) (by simp) _ rfl)
  go_wp2_with (go_at_call 46; refine (in_any _ _ _ _).mono ?_; rintro e w' ⟨rfl, hw'⟩; rw [hw']; clear hw' w')
  refine (unhide P9).mono ?_
  rintro e w9 ⟨j, hj, rfl, hc, hg⟩
  have hnb := ns4_bd ⟨j, hj⟩
  simp only at hnb
  generalize nAt [0, 1, 2, 255] j = n at hnb ⊢
  have E9' := hide (((unhide E1).alloc _).draw hc hg)
  have R9 := hide (row_draw (row_alloc (unhide R1) _) hg (by omega))
  clear hc hg P9 hj
  have rr := unhide R9
  have x0 : w9.cell? ⟨w1.heap.size, 0, none⟩ = some (.int .i64 (op)) := rr.cell (i := 0) (by omega)
  have g0 := rr.frozen 0
  have x1 : w9.cell? ⟨w1.heap.size, 1, none⟩ = some (.int .i64 (0)) := rr.cell (i := 1) (by omega)
  have g1 := rr.frozen 1
  have x2 : w9.cell? ⟨w1.heap.size, 2, none⟩ = some (.int .i64 (0)) := rr.cell (i := 2) (by omega)
  have g2 := rr.frozen 2
  have x3 : w9.cell? ⟨w1.heap.size, 3, none⟩ = some (.int .i64 (0)) := rr.cell (i := 3) (by omega)
  have g3 := rr.frozen 3
  have x4 : w9.cell? ⟨w1.heap.size, 4, none⟩ = some (.int .i64 (0)) := rr.cell (i := 4) (by omega)
  have g4 := rr.frozen 4
  have x5 : w9.cell? ⟨w1.heap.size, 5, none⟩ = some (.int .i64 (0)) := rr.cell (i := 5) (by omega)
  have g5 := rr.frozen 5
  have x6 : w9.cell? ⟨w1.heap.size, 6, none⟩ = some (.int .i64 (0)) := rr.cell (i := 6) (by omega)
  have g6 := rr.frozen 6
  have x7 : w9.cell? ⟨w1.heap.size, 7, none⟩ = some (.int .i64 (0)) := rr.cell (i := 7) (by omega)
  have g7 := rr.frozen 7
  clear rr
  have E9 := hide ((unhide E9').setO s1 7 (.int .i64 n))
  have ee := (unhide E9').res
  have c0 : w9.cell? ⟨w.heap.size, 0, none⟩ = some (.int .i64 0) := ee.cell (i := 0) (by omega)
  have f0 := ee.frozen 0
  have c1 : w9.cell? ⟨w.heap.size, 1, none⟩ = some (.int .i64 0) := ee.cell (i := 1) (by omega)
  have f1 := ee.frozen 1
  have c2 : w9.cell? ⟨w.heap.size, 2, none⟩ = some (.int .i64 0) := ee.cell (i := 2) (by omega)
  have f2 := ee.frozen 2
  have c3 : w9.cell? ⟨w.heap.size, 3, none⟩ = some (.int .i64 0) := ee.cell (i := 3) (by omega)
  have f3 := ee.frozen 3
  have c4 : w9.cell? ⟨w.heap.size, 4, none⟩ = some (.int .i64 0) := ee.cell (i := 4) (by omega)
  have f4 := ee.frozen 4
  have c5 : w9.cell? ⟨w.heap.size, 5, none⟩ = some (.int .i64 0) := ee.cell (i := 5) (by omega)
  have f5 := ee.frozen 5
  have c6 : w9.cell? ⟨w.heap.size, 6, none⟩ = some (.int .i64 0) := ee.cell (i := 6) (by omega)
  have f6 := ee.frozen 6
  have c7 : w9.cell? ⟨w.heap.size, 7, none⟩ = some (.int .i64 0) := ee.cell (i := 7) (by omega)
  have f7 := ee.frozen 7
  clear ee
  have EF := hide ((unhide E9).put8 (op) (0) (0) (0) (0) (0) (0) (n))
  go_wp2_with (go_at_call 46; refine (in_any _ _ _ _).mono ?_; rintro e w' ⟨rfl, hw'⟩; rw [hw']; clear hw' w')
  refine bodyPost_ret (results_cell_row (P := Try.prog) rfl _ _ w.heap.size 95 (cs8 [op, 0, 0, 0, 0, 0, 0, n]) (0, 0) _ rfl (row8_heap (unhide EF).res) Try.underlying95 rfl (by kernel_rfl)) rfl ?_
  exact ⟨⟨op, ⟨0, 0, 0⟩, ⟨0, 0, 0⟩, n⟩, ok_G (by omega) hnb, rfl, (unhide EF).cur, (unhide EF).gr⟩
end Go.Proofs.Ytjpbjbnialehbaa

namespace Go.Proofs.Ytjpbjbnialehbaa
open Go.ChangeShapes Go.WideShapes Go.ChangeAt Go.RowKit
set_option linter.unusedVariables false
set_option maxRecDepth 8000
set_option maxHeartbeats 4000000 in
theorem encS_A (k : Nat) (sm sr sx dm dr dx n : Int) (w : World) (hok : Is.ok ⟨(k : Int), ⟨sm, sr, sx⟩, ⟨dm, dr, dx⟩, n⟩ = true) (h1 : (k : Int) ≤ 6) :
    Calls Try.prog 69 #[.agg #[.int .i64 (k : Int), .int .i64 sm, .int .i64 sr, .int .i64 sx, .int .i64 dm, .int .i64 dr, .int .i64 dx, .int .i64 n]] w fun e w' => ∃ v, e = .returned v ∧ v ≠ .slice none 0 0 ∧ OwnN w' w.heap.size v (Is.code ⟨(k : Int), ⟨sm, sr, sx⟩, ⟨dm, dr, dx⟩, n⟩ :: Is.xs ⟨(k : Int), ⟨sm, sr, sx⟩, ⟨dm, dr, dx⟩, n⟩) ∧ Below w.heap.size w w' := by
  obtain ⟨i0, hi, hz0, hz1, hz2⟩ := info_parts info3
  have HZ := hide (show (w.alloc (Obj.cells #[.int .i64 (k : Int), .int .i64 sm, .int .i64 sr, .int .i64 sx, .int .i64 dm, .int .i64 dr, .int .i64 dx, .int .i64 n] 95)).heap.size = w.heap.size + 1 by simp)
  have HCL := hide (box_cells w #[.int .i64 (k : Int), .int .i64 sm, .int .i64 sr, .int .i64 sx, .int .i64 dm, .int .i64 dr, .int .i64 dx, .int .i64 n] 95)
  have HB := hide (box_below w (Obj.cells #[.int .i64 (k : Int), .int .i64 sm, .int .i64 sr, .int .i64 sx, .int .i64 dm, .int .i64 dr, .int .i64 dx, .int .i64 n] 95))
  have Bz : Below (w.heap.size + 1) (w.alloc (Obj.cells #[.int .i64 (k : Int), .int .i64 sm, .int .i64 sr, .int .i64 sx, .int .i64 dm, .int .i64 dr, .int .i64 dx, .int .i64 n] 95)) (w.alloc (Obj.cells #[.int .i64 (k : Int), .int .i64 sm, .int .i64 sr, .int .i64 sx, .int .i64 dm, .int .i64 dr, .int .i64 dx, .int .i64 n] 95)) := Below.refl _ _
  obtain ⟨⟨q1, q2⟩, q3, q4, q5, q6, q7, q8, q9, q10, q11⟩ := is_ok hok
  simp only at q1 q2 q3 q4 q5 q6 q7 q8 q9 q10 q11
  have hbb := base_bd ⟨k, by omega⟩
  simp only at hbb
  obtain ⟨b, hbk⟩ : ∃ b, baseAt k = b := ⟨_, rfl⟩
  rw [hbk] at hbb
  obtain ⟨p, hp6⟩ : ∃ p, Od.six ⟨sm, sr, sx⟩ = p := ⟨_, rfl⟩
  obtain ⟨q, hq6⟩ : ∃ q, Od.six ⟨dm, dr, dx⟩ = q := ⟨_, rfl⟩
  obtain ⟨sX, hsX⟩ : ∃ q, Od.hasX ⟨sm, sr, sx⟩ = q := ⟨_, rfl⟩
  obtain ⟨dX, hdX⟩ : ∃ q, Od.hasX ⟨dm, dr, dx⟩ = q := ⟨_, rfl⟩
  have hS := (od_ok (q3 (by omega))).1
  simp only at hS
  have hpb : 0 ≤ p ∧ p ≤ 63 := by rw [← hp6]; unfold Od.six; simp only; omega
  have hD := (od_ok (q4 (by omega))).1
  simp only at hD
  have hqb : 0 ≤ q ∧ q ≤ 63 := by rw [← hq6]; unfold Od.six; simp only; omega
  have HCo := hide (show Is.code ⟨(k : Int), ⟨sm, sr, sx⟩, ⟨dm, dr, dx⟩, n⟩ = b + p * 64 + q by unfold Is.code; simp only [Int.toNat_natCast, hp6, hq6, hbk]; rw [if_pos (by omega)])
  have HXs := hide (show Is.xs ⟨(k : Int), ⟨sm, sr, sx⟩, ⟨dm, dr, dx⟩, n⟩ = (if sX = true then [sx] else []) ++ (if dX = true then [dx] else []) by
    unfold Is.xs
    simp only [hsX, hdX]
    have hk6 : (k : Int) ≤ 6 := by omega
    have hk15 : (k : Int) ≤ 15 := by omega
    cases sX <;> cases dX <;> simp [hk6, hk15])
  have hle : (k : Int) ≤ 6 := h1
  have hle15 : (k : Int) ≤ 15 := by omega
  clear h1
  clear q3 q4 q5 q6 q8 q9 q10 q11
  go_enter Try.func69, Try.ntmps69
  go_wp2_with fail
  refine (insOk_any ⟨(k : Int), ⟨sm, sr, sx⟩, ⟨dm, dr, dx⟩, n⟩ _).mono ?_
  rintro e w' ⟨rfl, hb⟩
  have Bz := box_step Bz (unhide HZ) hb
  have a0 : w'.cell? ⟨w.heap.size, 0, none⟩ = some (.int .i64 (k : Int)) := unhide HCL w' Bz 0 _ rfl
  have A0 : ∀ o, (w'.alloc o).cell? ⟨w.heap.size, 0, none⟩ = some (.int .i64 (k : Int)) := fun o => alloc_cell a0 o
  have a1 : w'.cell? ⟨w.heap.size, 1, none⟩ = some (.int .i64 sm) := unhide HCL w' Bz 1 _ rfl
  have A1 : ∀ o, (w'.alloc o).cell? ⟨w.heap.size, 1, none⟩ = some (.int .i64 sm) := fun o => alloc_cell a1 o
  have a2 : w'.cell? ⟨w.heap.size, 2, none⟩ = some (.int .i64 sr) := unhide HCL w' Bz 2 _ rfl
  have A2 : ∀ o, (w'.alloc o).cell? ⟨w.heap.size, 2, none⟩ = some (.int .i64 sr) := fun o => alloc_cell a2 o
  have a3 : w'.cell? ⟨w.heap.size, 3, none⟩ = some (.int .i64 sx) := unhide HCL w' Bz 3 _ rfl
  have A3 : ∀ o, (w'.alloc o).cell? ⟨w.heap.size, 3, none⟩ = some (.int .i64 sx) := fun o => alloc_cell a3 o
  have a4 : w'.cell? ⟨w.heap.size, 4, none⟩ = some (.int .i64 dm) := unhide HCL w' Bz 4 _ rfl
  have A4 : ∀ o, (w'.alloc o).cell? ⟨w.heap.size, 4, none⟩ = some (.int .i64 dm) := fun o => alloc_cell a4 o
  have a5 : w'.cell? ⟨w.heap.size, 5, none⟩ = some (.int .i64 dr) := unhide HCL w' Bz 5 _ rfl
  have A5 : ∀ o, (w'.alloc o).cell? ⟨w.heap.size, 5, none⟩ = some (.int .i64 dr) := fun o => alloc_cell a5 o
  have a6 : w'.cell? ⟨w.heap.size, 6, none⟩ = some (.int .i64 dx) := unhide HCL w' Bz 6 _ rfl
  have A6 : ∀ o, (w'.alloc o).cell? ⟨w.heap.size, 6, none⟩ = some (.int .i64 dx) := fun o => alloc_cell a6 o
  have a7 : w'.cell? ⟨w.heap.size, 7, none⟩ = some (.int .i64 n) := unhide HCL w' Bz 7 _ rfl
  have A7 : ∀ o, (w'.alloc o).cell? ⟨w.heap.size, 7, none⟩ = some (.int .i64 n) := fun o => alloc_cell a7 o
  clear hb
  rw [hok]
  go_wp2_with fail
  refine (base_any k (by omega) _).mono ?_
  rintro e w' ⟨rfl, hb⟩
  have Bz := box_step Bz (unhide HZ) hb
  have a0 : w'.cell? ⟨w.heap.size, 0, none⟩ = some (.int .i64 (k : Int)) := unhide HCL w' Bz 0 _ rfl
  have A0 : ∀ o, (w'.alloc o).cell? ⟨w.heap.size, 0, none⟩ = some (.int .i64 (k : Int)) := fun o => alloc_cell a0 o
  have a1 : w'.cell? ⟨w.heap.size, 1, none⟩ = some (.int .i64 sm) := unhide HCL w' Bz 1 _ rfl
  have A1 : ∀ o, (w'.alloc o).cell? ⟨w.heap.size, 1, none⟩ = some (.int .i64 sm) := fun o => alloc_cell a1 o
  have a2 : w'.cell? ⟨w.heap.size, 2, none⟩ = some (.int .i64 sr) := unhide HCL w' Bz 2 _ rfl
  have A2 : ∀ o, (w'.alloc o).cell? ⟨w.heap.size, 2, none⟩ = some (.int .i64 sr) := fun o => alloc_cell a2 o
  have a3 : w'.cell? ⟨w.heap.size, 3, none⟩ = some (.int .i64 sx) := unhide HCL w' Bz 3 _ rfl
  have A3 : ∀ o, (w'.alloc o).cell? ⟨w.heap.size, 3, none⟩ = some (.int .i64 sx) := fun o => alloc_cell a3 o
  have a4 : w'.cell? ⟨w.heap.size, 4, none⟩ = some (.int .i64 dm) := unhide HCL w' Bz 4 _ rfl
  have A4 : ∀ o, (w'.alloc o).cell? ⟨w.heap.size, 4, none⟩ = some (.int .i64 dm) := fun o => alloc_cell a4 o
  have a5 : w'.cell? ⟨w.heap.size, 5, none⟩ = some (.int .i64 dr) := unhide HCL w' Bz 5 _ rfl
  have A5 : ∀ o, (w'.alloc o).cell? ⟨w.heap.size, 5, none⟩ = some (.int .i64 dr) := fun o => alloc_cell a5 o
  have a6 : w'.cell? ⟨w.heap.size, 6, none⟩ = some (.int .i64 dx) := unhide HCL w' Bz 6 _ rfl
  have A6 : ∀ o, (w'.alloc o).cell? ⟨w.heap.size, 6, none⟩ = some (.int .i64 dx) := fun o => alloc_cell a6 o
  have a7 : w'.cell? ⟨w.heap.size, 7, none⟩ = some (.int .i64 n) := unhide HCL w' Bz 7 _ rfl
  have A7 : ∀ o, (w'.alloc o).cell? ⟨w.heap.size, 7, none⟩ = some (.int .i64 n) := fun o => alloc_cell a7 o
  clear hb
  rw [hbk]
  go_wp2
  go_region_with (go_at_call 73; refine (six_any ⟨_, _, _⟩ (by simp only; omega) _).mono ?_; rintro e w' ⟨rfl, hb⟩; (first | have Bz := box_step Bz (unhide HZ) hb | have Bz := box_stepd Bz (unhide HZ) hb); have a0 : w'.cell? ⟨w.heap.size, 0, none⟩ = some (.int .i64 (k : Int)) := unhide HCL w' Bz 0 _ rfl; have A0 : ∀ o, (w'.alloc o).cell? ⟨w.heap.size, 0, none⟩ = some (.int .i64 (k : Int)) := fun o => alloc_cell a0 o; have a1 : w'.cell? ⟨w.heap.size, 1, none⟩ = some (.int .i64 sm) := unhide HCL w' Bz 1 _ rfl; have A1 : ∀ o, (w'.alloc o).cell? ⟨w.heap.size, 1, none⟩ = some (.int .i64 sm) := fun o => alloc_cell a1 o; have a2 : w'.cell? ⟨w.heap.size, 2, none⟩ = some (.int .i64 sr) := unhide HCL w' Bz 2 _ rfl; have A2 : ∀ o, (w'.alloc o).cell? ⟨w.heap.size, 2, none⟩ = some (.int .i64 sr) := fun o => alloc_cell a2 o; have a3 : w'.cell? ⟨w.heap.size, 3, none⟩ = some (.int .i64 sx) := unhide HCL w' Bz 3 _ rfl; have A3 : ∀ o, (w'.alloc o).cell? ⟨w.heap.size, 3, none⟩ = some (.int .i64 sx) := fun o => alloc_cell a3 o; have a4 : w'.cell? ⟨w.heap.size, 4, none⟩ = some (.int .i64 dm) := unhide HCL w' Bz 4 _ rfl; have A4 : ∀ o, (w'.alloc o).cell? ⟨w.heap.size, 4, none⟩ = some (.int .i64 dm) := fun o => alloc_cell a4 o; have a5 : w'.cell? ⟨w.heap.size, 5, none⟩ = some (.int .i64 dr) := unhide HCL w' Bz 5 _ rfl; have A5 : ∀ o, (w'.alloc o).cell? ⟨w.heap.size, 5, none⟩ = some (.int .i64 dr) := fun o => alloc_cell a5 o; have a6 : w'.cell? ⟨w.heap.size, 6, none⟩ = some (.int .i64 dx) := unhide HCL w' Bz 6 _ rfl; have A6 : ∀ o, (w'.alloc o).cell? ⟨w.heap.size, 6, none⟩ = some (.int .i64 dx) := fun o => alloc_cell a6 o; have a7 : w'.cell? ⟨w.heap.size, 7, none⟩ = some (.int .i64 n) := unhide HCL w' Bz 7 _ rfl; have A7 : ∀ o, (w'.alloc o).cell? ⟨w.heap.size, 7, none⟩ = some (.int .i64 n) := fun o => alloc_cell a7 o; clear hb)
  all_goals
    have hsz := Bz.size
    rw [unhide HZ] at hsz
    have OO := hide ((own_one w' (b + p * 64 + q)).base (show w.heap.size + 1 ≤ w'.heap.size by omega))
    have HN : (Value.slice (some ⟨w'.heap.size, 0, none⟩) 1 1) ≠ .slice none 0 0 := by simp
    have B0 := box_step Bz (unhide HZ) ((Below.refl w'.heap.size w').alloc (Nat.le_refl _) (Obj.cells #[.int .i64 (b + p * 64 + q)] 3))
    go_wp2_with fail
    refine (hasX_any ⟨sm, sr, sx⟩ _).mono ?_
    rintro e w5 ⟨rfl, hb⟩
    have Bz := box_step B0 (unhide HZ) hb
    have a0 : w5.cell? ⟨w.heap.size, 0, none⟩ = some (.int .i64 (k : Int)) := unhide HCL w5 Bz 0 _ rfl
    have A0 : ∀ o, (w5.alloc o).cell? ⟨w.heap.size, 0, none⟩ = some (.int .i64 (k : Int)) := fun o => alloc_cell a0 o
    have a1 : w5.cell? ⟨w.heap.size, 1, none⟩ = some (.int .i64 sm) := unhide HCL w5 Bz 1 _ rfl
    have A1 : ∀ o, (w5.alloc o).cell? ⟨w.heap.size, 1, none⟩ = some (.int .i64 sm) := fun o => alloc_cell a1 o
    have a2 : w5.cell? ⟨w.heap.size, 2, none⟩ = some (.int .i64 sr) := unhide HCL w5 Bz 2 _ rfl
    have A2 : ∀ o, (w5.alloc o).cell? ⟨w.heap.size, 2, none⟩ = some (.int .i64 sr) := fun o => alloc_cell a2 o
    have a3 : w5.cell? ⟨w.heap.size, 3, none⟩ = some (.int .i64 sx) := unhide HCL w5 Bz 3 _ rfl
    have A3 : ∀ o, (w5.alloc o).cell? ⟨w.heap.size, 3, none⟩ = some (.int .i64 sx) := fun o => alloc_cell a3 o
    have a4 : w5.cell? ⟨w.heap.size, 4, none⟩ = some (.int .i64 dm) := unhide HCL w5 Bz 4 _ rfl
    have A4 : ∀ o, (w5.alloc o).cell? ⟨w.heap.size, 4, none⟩ = some (.int .i64 dm) := fun o => alloc_cell a4 o
    have a5 : w5.cell? ⟨w.heap.size, 5, none⟩ = some (.int .i64 dr) := unhide HCL w5 Bz 5 _ rfl
    have A5 : ∀ o, (w5.alloc o).cell? ⟨w.heap.size, 5, none⟩ = some (.int .i64 dr) := fun o => alloc_cell a5 o
    have a6 : w5.cell? ⟨w.heap.size, 6, none⟩ = some (.int .i64 dx) := unhide HCL w5 Bz 6 _ rfl
    have A6 : ∀ o, (w5.alloc o).cell? ⟨w.heap.size, 6, none⟩ = some (.int .i64 dx) := fun o => alloc_cell a6 o
    have a7 : w5.cell? ⟨w.heap.size, 7, none⟩ = some (.int .i64 n) := unhide HCL w5 Bz 7 _ rfl
    have A7 : ∀ o, (w5.alloc o).cell? ⟨w.heap.size, 7, none⟩ = some (.int .i64 n) := fun o => alloc_cell a7 o
    have OO := hide ((unhide OO).later hb)
    clear hb B0
    rw [hsX]
    cases sX
    · go_wp2_with fail
      have B0 := Bz
      refine (hasX_any ⟨dm, dr, dx⟩ _).mono ?_
      rintro e w7 ⟨rfl, hb⟩
      have Bz := box_step B0 (unhide HZ) hb
      have a0 : w7.cell? ⟨w.heap.size, 0, none⟩ = some (.int .i64 (k : Int)) := unhide HCL w7 Bz 0 _ rfl
      have A0 : ∀ o, (w7.alloc o).cell? ⟨w.heap.size, 0, none⟩ = some (.int .i64 (k : Int)) := fun o => alloc_cell a0 o
      have a1 : w7.cell? ⟨w.heap.size, 1, none⟩ = some (.int .i64 sm) := unhide HCL w7 Bz 1 _ rfl
      have A1 : ∀ o, (w7.alloc o).cell? ⟨w.heap.size, 1, none⟩ = some (.int .i64 sm) := fun o => alloc_cell a1 o
      have a2 : w7.cell? ⟨w.heap.size, 2, none⟩ = some (.int .i64 sr) := unhide HCL w7 Bz 2 _ rfl
      have A2 : ∀ o, (w7.alloc o).cell? ⟨w.heap.size, 2, none⟩ = some (.int .i64 sr) := fun o => alloc_cell a2 o
      have a3 : w7.cell? ⟨w.heap.size, 3, none⟩ = some (.int .i64 sx) := unhide HCL w7 Bz 3 _ rfl
      have A3 : ∀ o, (w7.alloc o).cell? ⟨w.heap.size, 3, none⟩ = some (.int .i64 sx) := fun o => alloc_cell a3 o
      have a4 : w7.cell? ⟨w.heap.size, 4, none⟩ = some (.int .i64 dm) := unhide HCL w7 Bz 4 _ rfl
      have A4 : ∀ o, (w7.alloc o).cell? ⟨w.heap.size, 4, none⟩ = some (.int .i64 dm) := fun o => alloc_cell a4 o
      have a5 : w7.cell? ⟨w.heap.size, 5, none⟩ = some (.int .i64 dr) := unhide HCL w7 Bz 5 _ rfl
      have A5 : ∀ o, (w7.alloc o).cell? ⟨w.heap.size, 5, none⟩ = some (.int .i64 dr) := fun o => alloc_cell a5 o
      have a6 : w7.cell? ⟨w.heap.size, 6, none⟩ = some (.int .i64 dx) := unhide HCL w7 Bz 6 _ rfl
      have A6 : ∀ o, (w7.alloc o).cell? ⟨w.heap.size, 6, none⟩ = some (.int .i64 dx) := fun o => alloc_cell a6 o
      have a7 : w7.cell? ⟨w.heap.size, 7, none⟩ = some (.int .i64 n) := unhide HCL w7 Bz 7 _ rfl
      have A7 : ∀ o, (w7.alloc o).cell? ⟨w.heap.size, 7, none⟩ = some (.int .i64 n) := fun o => alloc_cell a7 o
      have OO := hide ((unhide OO).later hb)
      clear hb B0
      rw [hdX]
      cases dX
      · go_wp2
        go_ret
        exact ⟨(.slice (some ⟨w'.heap.size, 0, none⟩) 1 1), rfl, HN, by rw [unhide HCo, unhide HXs]; exact (unhide OO).base (by omega), unhide HB _ Bz⟩
      · have K1 := hide (cell_one_new w7 (Value.int .i64 (dx)) 3)
        have szc := Bz.size
        rw [unhide HZ] at szc
        go_wp2_with (at_builtin; go_must (refine wpList_append_own _ rfl (.tmp 94) (.tmp 98) 36 rfl (w.heap.size + 1) 3 i0 (.int .i64 0) 1 8 Try.underlying36 hi hz0 hz1 hz2 rfl (by decide) (.slice (some ⟨w'.heap.size, 0, none⟩) 1 1) 1 (cellsN [b + p * 64 + q]) rfl ((unhide OO).alloc _) ⟨w7.heap.size, 0, none⟩ 1 1 (cellsN [dx]) rfl rfl (unhide K1) (cellsN_one _) (by unfold maxLen; omega) (by omega) (by simp; omega) ?_; intro v8 w8 hown hgrow hnil; have Bz := box_app Bz (unhide HZ) _ hgrow (unhide OO) (Nat.le_refl _); have a0 : w8.cell? ⟨w.heap.size, 0, none⟩ = some (.int .i64 (k : Int)) := unhide HCL w8 Bz 0 _ rfl; have A0 : ∀ o, (w8.alloc o).cell? ⟨w.heap.size, 0, none⟩ = some (.int .i64 (k : Int)) := fun o => alloc_cell a0 o; have a1 : w8.cell? ⟨w.heap.size, 1, none⟩ = some (.int .i64 sm) := unhide HCL w8 Bz 1 _ rfl; have A1 : ∀ o, (w8.alloc o).cell? ⟨w.heap.size, 1, none⟩ = some (.int .i64 sm) := fun o => alloc_cell a1 o; have a2 : w8.cell? ⟨w.heap.size, 2, none⟩ = some (.int .i64 sr) := unhide HCL w8 Bz 2 _ rfl; have A2 : ∀ o, (w8.alloc o).cell? ⟨w.heap.size, 2, none⟩ = some (.int .i64 sr) := fun o => alloc_cell a2 o; have a3 : w8.cell? ⟨w.heap.size, 3, none⟩ = some (.int .i64 sx) := unhide HCL w8 Bz 3 _ rfl; have A3 : ∀ o, (w8.alloc o).cell? ⟨w.heap.size, 3, none⟩ = some (.int .i64 sx) := fun o => alloc_cell a3 o; have a4 : w8.cell? ⟨w.heap.size, 4, none⟩ = some (.int .i64 dm) := unhide HCL w8 Bz 4 _ rfl; have A4 : ∀ o, (w8.alloc o).cell? ⟨w.heap.size, 4, none⟩ = some (.int .i64 dm) := fun o => alloc_cell a4 o; have a5 : w8.cell? ⟨w.heap.size, 5, none⟩ = some (.int .i64 dr) := unhide HCL w8 Bz 5 _ rfl; have A5 : ∀ o, (w8.alloc o).cell? ⟨w.heap.size, 5, none⟩ = some (.int .i64 dr) := fun o => alloc_cell a5 o; have a6 : w8.cell? ⟨w.heap.size, 6, none⟩ = some (.int .i64 dx) := unhide HCL w8 Bz 6 _ rfl; have A6 : ∀ o, (w8.alloc o).cell? ⟨w.heap.size, 6, none⟩ = some (.int .i64 dx) := fun o => alloc_cell a6 o; have a7 : w8.cell? ⟨w.heap.size, 7, none⟩ = some (.int .i64 n) := unhide HCL w8 Bz 7 _ rfl; have A7 : ∀ o, (w8.alloc o).cell? ⟨w.heap.size, 7, none⟩ = some (.int .i64 n) := fun o => alloc_cell a7 o))
        have HN : v8 ≠ .slice none 0 0 := fun e => by have := hnil.1 e; omega
        have OO := hide (show OwnN w8 (w.heap.size + 1) v8 [b + p * 64 + q, dx] from hown)
        clear hown hgrow hnil K1
        go_wp2
        go_ret
        exact ⟨v8, rfl, HN, by rw [unhide HCo, unhide HXs]; exact (unhide OO).base (by omega), unhide HB _ Bz⟩
    · have K1 := hide (cell_one_new w5 (Value.int .i64 (sx)) 3)
      have szc := Bz.size
      rw [unhide HZ] at szc
      go_wp2_with (at_builtin; go_must (refine wpList_append_own _ rfl (.tmp 80) (.tmp 84) 36 rfl (w.heap.size + 1) 3 i0 (.int .i64 0) 1 8 Try.underlying36 hi hz0 hz1 hz2 rfl (by decide) (.slice (some ⟨w'.heap.size, 0, none⟩) 1 1) 1 (cellsN [b + p * 64 + q]) rfl ((unhide OO).alloc _) ⟨w5.heap.size, 0, none⟩ 1 1 (cellsN [sx]) rfl rfl (unhide K1) (cellsN_one _) (by unfold maxLen; omega) (by omega) (by simp; omega) ?_; intro v6 w6 hown hgrow hnil; have Bz := box_app Bz (unhide HZ) _ hgrow (unhide OO) (Nat.le_refl _); have a0 : w6.cell? ⟨w.heap.size, 0, none⟩ = some (.int .i64 (k : Int)) := unhide HCL w6 Bz 0 _ rfl; have A0 : ∀ o, (w6.alloc o).cell? ⟨w.heap.size, 0, none⟩ = some (.int .i64 (k : Int)) := fun o => alloc_cell a0 o; have a1 : w6.cell? ⟨w.heap.size, 1, none⟩ = some (.int .i64 sm) := unhide HCL w6 Bz 1 _ rfl; have A1 : ∀ o, (w6.alloc o).cell? ⟨w.heap.size, 1, none⟩ = some (.int .i64 sm) := fun o => alloc_cell a1 o; have a2 : w6.cell? ⟨w.heap.size, 2, none⟩ = some (.int .i64 sr) := unhide HCL w6 Bz 2 _ rfl; have A2 : ∀ o, (w6.alloc o).cell? ⟨w.heap.size, 2, none⟩ = some (.int .i64 sr) := fun o => alloc_cell a2 o; have a3 : w6.cell? ⟨w.heap.size, 3, none⟩ = some (.int .i64 sx) := unhide HCL w6 Bz 3 _ rfl; have A3 : ∀ o, (w6.alloc o).cell? ⟨w.heap.size, 3, none⟩ = some (.int .i64 sx) := fun o => alloc_cell a3 o; have a4 : w6.cell? ⟨w.heap.size, 4, none⟩ = some (.int .i64 dm) := unhide HCL w6 Bz 4 _ rfl; have A4 : ∀ o, (w6.alloc o).cell? ⟨w.heap.size, 4, none⟩ = some (.int .i64 dm) := fun o => alloc_cell a4 o; have a5 : w6.cell? ⟨w.heap.size, 5, none⟩ = some (.int .i64 dr) := unhide HCL w6 Bz 5 _ rfl; have A5 : ∀ o, (w6.alloc o).cell? ⟨w.heap.size, 5, none⟩ = some (.int .i64 dr) := fun o => alloc_cell a5 o; have a6 : w6.cell? ⟨w.heap.size, 6, none⟩ = some (.int .i64 dx) := unhide HCL w6 Bz 6 _ rfl; have A6 : ∀ o, (w6.alloc o).cell? ⟨w.heap.size, 6, none⟩ = some (.int .i64 dx) := fun o => alloc_cell a6 o; have a7 : w6.cell? ⟨w.heap.size, 7, none⟩ = some (.int .i64 n) := unhide HCL w6 Bz 7 _ rfl; have A7 : ∀ o, (w6.alloc o).cell? ⟨w.heap.size, 7, none⟩ = some (.int .i64 n) := fun o => alloc_cell a7 o))
      have HN : v6 ≠ .slice none 0 0 := fun e => by have := hnil.1 e; omega
      have OO := hide (show OwnN w6 (w.heap.size + 1) v6 [b + p * 64 + q, sx] from hown)
      clear hown hgrow hnil K1
      have B0 := Bz
      refine (hasX_any ⟨dm, dr, dx⟩ _).mono ?_
      rintro e w7 ⟨rfl, hb⟩
      have Bz := box_step B0 (unhide HZ) hb
      have a0 : w7.cell? ⟨w.heap.size, 0, none⟩ = some (.int .i64 (k : Int)) := unhide HCL w7 Bz 0 _ rfl
      have A0 : ∀ o, (w7.alloc o).cell? ⟨w.heap.size, 0, none⟩ = some (.int .i64 (k : Int)) := fun o => alloc_cell a0 o
      have a1 : w7.cell? ⟨w.heap.size, 1, none⟩ = some (.int .i64 sm) := unhide HCL w7 Bz 1 _ rfl
      have A1 : ∀ o, (w7.alloc o).cell? ⟨w.heap.size, 1, none⟩ = some (.int .i64 sm) := fun o => alloc_cell a1 o
      have a2 : w7.cell? ⟨w.heap.size, 2, none⟩ = some (.int .i64 sr) := unhide HCL w7 Bz 2 _ rfl
      have A2 : ∀ o, (w7.alloc o).cell? ⟨w.heap.size, 2, none⟩ = some (.int .i64 sr) := fun o => alloc_cell a2 o
      have a3 : w7.cell? ⟨w.heap.size, 3, none⟩ = some (.int .i64 sx) := unhide HCL w7 Bz 3 _ rfl
      have A3 : ∀ o, (w7.alloc o).cell? ⟨w.heap.size, 3, none⟩ = some (.int .i64 sx) := fun o => alloc_cell a3 o
      have a4 : w7.cell? ⟨w.heap.size, 4, none⟩ = some (.int .i64 dm) := unhide HCL w7 Bz 4 _ rfl
      have A4 : ∀ o, (w7.alloc o).cell? ⟨w.heap.size, 4, none⟩ = some (.int .i64 dm) := fun o => alloc_cell a4 o
      have a5 : w7.cell? ⟨w.heap.size, 5, none⟩ = some (.int .i64 dr) := unhide HCL w7 Bz 5 _ rfl
      have A5 : ∀ o, (w7.alloc o).cell? ⟨w.heap.size, 5, none⟩ = some (.int .i64 dr) := fun o => alloc_cell a5 o
      have a6 : w7.cell? ⟨w.heap.size, 6, none⟩ = some (.int .i64 dx) := unhide HCL w7 Bz 6 _ rfl
      have A6 : ∀ o, (w7.alloc o).cell? ⟨w.heap.size, 6, none⟩ = some (.int .i64 dx) := fun o => alloc_cell a6 o
      have a7 : w7.cell? ⟨w.heap.size, 7, none⟩ = some (.int .i64 n) := unhide HCL w7 Bz 7 _ rfl
      have A7 : ∀ o, (w7.alloc o).cell? ⟨w.heap.size, 7, none⟩ = some (.int .i64 n) := fun o => alloc_cell a7 o
      have OO := hide ((unhide OO).later hb)
      clear hb B0
      rw [hdX]
      cases dX
      · go_wp2
        go_ret
        exact ⟨v6, rfl, HN, by rw [unhide HCo, unhide HXs]; exact (unhide OO).base (by omega), unhide HB _ Bz⟩
      · have K1 := hide (cell_one_new w7 (Value.int .i64 (dx)) 3)
        have szc := Bz.size
        rw [unhide HZ] at szc
        go_wp2_with (at_builtin; go_must (refine wpList_append_own _ rfl (.tmp 94) (.tmp 98) 36 rfl (w.heap.size + 1) 3 i0 (.int .i64 0) 1 8 Try.underlying36 hi hz0 hz1 hz2 rfl (by decide) v6 2 (cellsN [b + p * 64 + q, sx]) rfl ((unhide OO).alloc _) ⟨w7.heap.size, 0, none⟩ 1 1 (cellsN [dx]) rfl rfl (unhide K1) (cellsN_one _) (by unfold maxLen; omega) (by omega) (by simp; omega) ?_; intro v8 w8 hown hgrow hnil; have Bz := box_app Bz (unhide HZ) _ hgrow (unhide OO) (Nat.le_refl _); have a0 : w8.cell? ⟨w.heap.size, 0, none⟩ = some (.int .i64 (k : Int)) := unhide HCL w8 Bz 0 _ rfl; have A0 : ∀ o, (w8.alloc o).cell? ⟨w.heap.size, 0, none⟩ = some (.int .i64 (k : Int)) := fun o => alloc_cell a0 o; have a1 : w8.cell? ⟨w.heap.size, 1, none⟩ = some (.int .i64 sm) := unhide HCL w8 Bz 1 _ rfl; have A1 : ∀ o, (w8.alloc o).cell? ⟨w.heap.size, 1, none⟩ = some (.int .i64 sm) := fun o => alloc_cell a1 o; have a2 : w8.cell? ⟨w.heap.size, 2, none⟩ = some (.int .i64 sr) := unhide HCL w8 Bz 2 _ rfl; have A2 : ∀ o, (w8.alloc o).cell? ⟨w.heap.size, 2, none⟩ = some (.int .i64 sr) := fun o => alloc_cell a2 o; have a3 : w8.cell? ⟨w.heap.size, 3, none⟩ = some (.int .i64 sx) := unhide HCL w8 Bz 3 _ rfl; have A3 : ∀ o, (w8.alloc o).cell? ⟨w.heap.size, 3, none⟩ = some (.int .i64 sx) := fun o => alloc_cell a3 o; have a4 : w8.cell? ⟨w.heap.size, 4, none⟩ = some (.int .i64 dm) := unhide HCL w8 Bz 4 _ rfl; have A4 : ∀ o, (w8.alloc o).cell? ⟨w.heap.size, 4, none⟩ = some (.int .i64 dm) := fun o => alloc_cell a4 o; have a5 : w8.cell? ⟨w.heap.size, 5, none⟩ = some (.int .i64 dr) := unhide HCL w8 Bz 5 _ rfl; have A5 : ∀ o, (w8.alloc o).cell? ⟨w.heap.size, 5, none⟩ = some (.int .i64 dr) := fun o => alloc_cell a5 o; have a6 : w8.cell? ⟨w.heap.size, 6, none⟩ = some (.int .i64 dx) := unhide HCL w8 Bz 6 _ rfl; have A6 : ∀ o, (w8.alloc o).cell? ⟨w.heap.size, 6, none⟩ = some (.int .i64 dx) := fun o => alloc_cell a6 o; have a7 : w8.cell? ⟨w.heap.size, 7, none⟩ = some (.int .i64 n) := unhide HCL w8 Bz 7 _ rfl; have A7 : ∀ o, (w8.alloc o).cell? ⟨w.heap.size, 7, none⟩ = some (.int .i64 n) := fun o => alloc_cell a7 o))
        have HN : v8 ≠ .slice none 0 0 := fun e => by have := hnil.1 e; omega
        have OO := hide (show OwnN w8 (w.heap.size + 1) v8 [b + p * 64 + q, sx, dx] from hown)
        clear hown hgrow hnil K1
        go_wp2
        go_ret
        exact ⟨v8, rfl, HN, by rw [unhide HCo, unhide HXs]; exact (unhide OO).base (by omega), unhide HB _ Bz⟩
end Go.Proofs.Ytjpbjbnialehbaa
