/- A new machine, by the program: its parts made; over this seat's translation; conditions stand as hypotheses of each. -/
import Derived.Test.YtfkmibgamkignaaMacT
namespace Go.Proofs.Ytfkmibgamkignaa
open Go.ChangeShapes Go.WideShapes Go.ChangeAt Go.RowKit
set_option linter.unusedVariables false
set_option maxRecDepth 8000
set_option linter.unusedSimpArgs false

theorem laid_z : laidM (List.replicate 256 0) z256 = z256 := by
  unfold laidM
  rw [List.length_replicate, List.take_of_length_le (by rw [List.length_replicate]; omega), List.drop_eq_nil_of_le (by rw [z256_len]; omega), List.append_nil]
  rfl
theorem wp_alloc60 {o : Oper} {a : Act} {w : World} {K : Act → World → Prop} {Q : Exit → Act → World → Prop} (ho : o.op = .alloc 80) (h : K (a.put o.dst (.pointer (some ⟨w.heap.size, 0, none⟩))) (w.alloc (.cells (bigA z256 zMv) 80))) : o.wp Try.prog a w K Q := by
  have hz := (zero_of_info info60).1
  unfold Oper.wp execOp
  simp only [ho, Instr.alloc, hz, Sem.run_bind, Sem.run_pure, Result.andThen_ok]
  simp [go_sem]
  exact h
theorem wp_call37 {o : Oper} {a : Act} {w : World} {K : Act → World → Prop} {Q : Exit → Act → World → Prop} (x : Operand) (ho : o.op = .call { callee := .value (.func 52), args := #[x], argTypes := #[28] }) (v : Value) (hv : a.eval x = v) (R : Value → World → Prop)
    (hc : Calls Try.prog 52 #[v] w fun e w' => ∃ u, e = .returned u ∧ R u w') (h : ∀ u w', R u w' → K (a.put o.dst u) w') : o.wp Try.prog a w K Q := by
  have hrun : (execOp a.eval o).run Try.prog w = .ok (.enter 52 #[v]) w := by
    have he : a.eval (.func 52) = .func (.func 52) #[] #[] := rfl
    unfold execOp
    simp only [ho, resolve, he, List.map_toArray, List.map_cons, List.map_nil, hv]
    simp [go_sem]
  unfold Oper.wp
  rw [hrun, Oper.upon_enter]
  refine hc.mono ?_
  rintro e w' ⟨u, rfl, hu⟩
  exact h u w' hu
/-- The machine that is handed over to be copied. -/
def xOf (s0 s1 ins : Sl) : Mv := ⟨s0, s1, false, false, false, false, ins, ⟨none, 0, 0⟩, 0⟩
structure Iq (w : World) (ins : Sl) (nn : List Int) (w' : World) (b0 b1 b2 b3 b4 b5 : Bool) (v9 v41 v42 v43 v44 v45 : Value) : Prop where
  bel : Below (w.heap.size + 1) (w.alloc (.cells zMv.cs 28)) w'
  h0 : b0 = true → ∃ g, v41 = (Sl.mk (some ⟨g, 0, none⟩) 256 256).v ∧ w'.heap[g]? = some (.cells (zA 256) 3 (0, 0))
  h1 : b1 = true → ∃ g, v42 = (Sl.mk (some ⟨g, 0, none⟩) 8 8).v ∧ w'.heap[g]? = some (.cells (zA 8) 3 (0, 0))
  h2 : b2 = true → v43 = ins.v
  h3 : b3 = true → ∃ s0 s1 : Sl, v41 = s0.v ∧ v42 = s1.v ∧ v44 = .agg (xOf s0 s1 ins).cs
  h4 : b4 = true → ∃ y : Mv, v45 = .agg (bigA z256 y) ∧ y.fl = zMv.fl ∧ OwnM w' (w.heap.size + 1) y ⟨List.replicate 256 0, List.replicate 8 0, nn, []⟩ ∧ (b5 = true → ∀ b, y.at b → v9 ≠ .pointer (some ⟨b, 0, none⟩))
  h5 : b5 = true → ∃ g, v9 = .pointer (some ⟨g, 0, none⟩) ∧ w.heap.size < g ∧ w'.heap[g]? = some (.cells (bigA z256 zMv) 80 (0, 0))
/-- What stands at its end. -/
structure Ih (w w' : World) (nn : List Int) (v9 : Value) (g9 : Nat) (mem : List Int) (y : Mv) (d : Md) : Prop where
  bel : Below (w.heap.size + 1) (w.alloc (.cells zMv.cs 28)) w'
  p9 : v9 = .pointer (some ⟨g9, 0, none⟩)
  l9 : w.heap.size < g9
  r9 : w'.heap[g9]? = some (.cells (bigA mem y) 80 (0, 0))
  own : OwnM w' (w.heap.size + 1) y d
  fl : y.fl = zMv.fl
  ne : ∀ b, y.at b → b ≠ g9
section
variable {w w' : World} {ins : Sl} {nn : List Int} {b0 b1 b2 b3 b4 b5 : Bool} {v9 v41 v42 v43 v44 v45 : Value}
theorem Iq.low (J : Iq w ins nn w' b0 b1 b2 b3 b4 b5 v9 v41 v42 v43 v44 v45) : Below w.heap.size w w' := (below_new w (.cells zMv.cs 28)).trans (J.bel.mono (by omega))
theorem Iq.size (J : Iq w ins nn w' b0 b1 b2 b3 b4 b5 v9 v41 v42 v43 v44 v45) : w.heap.size + 1 ≤ w'.heap.size := by have := J.bel.size; have := alloc_size w (.cells zMv.cs 28); omega
/-- All stays behind what makes memory. -/
theorem Iq.later {w2 : World} (J : Iq w ins nn w' b0 b1 b2 b3 b4 b5 v9 v41 v42 v43 v44 v45) (hb : Below w'.heap.size w' w2) : Iq w ins nn w2 b0 b1 b2 b3 b4 b5 v9 v41 v42 v43 v44 v45 := by
  refine ⟨J.bel.trans (hb.mono J.size), fun h => ?_, fun h => ?_, J.h2, J.h3, fun h => ?_, fun h => ?_⟩
  · obtain ⟨g, e, r⟩ := J.h0 h; exact ⟨g, e, row_lat r hb⟩
  · obtain ⟨g, e, r⟩ := J.h1 h; exact ⟨g, e, row_lat r hb⟩
  · obtain ⟨y, e, f, o, n⟩ := J.h4 h; exact ⟨y, e, f, o.later hb, n⟩
  · obtain ⟨g, e, l, r⟩ := J.h5 h; exact ⟨g, e, l, row_lat r hb⟩
theorem Iq.op0 (J : Iq w ins nn w' b0 b1 b2 false b4 b5 v9 v41 v42 v43 v44 v45) : Iq w ins nn (w'.alloc (.cells (zA 256) 3)) true b1 b2 false b4 b5 v9 (.slice (some ⟨w'.heap.size, 0, none⟩) 256 256) v42 v43 v44 v45 :=
  { (J.later (below_new _ _)) with h0 := fun _ => ⟨_, rfl, heap_alloc_last w' _⟩, h3 := fun h => no h }
theorem Iq.op1 (J : Iq w ins nn w' b0 b1 b2 false b4 b5 v9 v41 v42 v43 v44 v45) : Iq w ins nn (w'.alloc (.cells (zA 8) 3)) b0 true b2 false b4 b5 v9 v41 (.slice (some ⟨w'.heap.size, 0, none⟩) 8 8) v43 v44 v45 :=
  { (J.later (below_new _ _)) with h1 := fun _ => ⟨_, rfl, heap_alloc_last w' _⟩, h3 := fun h => no h }
theorem Iq.op2 (J : Iq w ins nn w' b0 b1 b2 false b4 b5 v9 v41 v42 v43 v44 v45) : Iq w ins nn w' b0 b1 true false b4 b5 v9 v41 v42 ins.v v44 v45 :=
  { J with h2 := fun _ => rfl, h3 := fun h => no h }
theorem Iq.op3 (J : Iq w ins nn w' b0 b1 b2 b3 b4 b5 v9 v41 v42 v43 v44 v45) {s0 s1 : Sl} (e0 : v41 = s0.v) (e1 : v42 = s1.v) : Iq w ins nn w' b0 b1 b2 true b4 b5 v9 v41 v42 v43 (.agg (xOf s0 s1 ins).cs) v45 :=
  { J with h3 := fun _ => ⟨s0, s1, e0, e1, rfl⟩ }
theorem Iq.op4 (J : Iq w ins nn w' b0 b1 b2 b3 b4 b5 v9 v41 v42 v43 v44 v45) {w2 : World} (hb : Below w'.heap.size w' w2) {y : Mv} (fy : y.fl = zMv.fl) (oy : OwnM w2 (w'.heap.size + 2) y ⟨List.replicate 256 0, List.replicate 8 0, nn, []⟩) : Iq w ins nn w2 b0 b1 b2 b3 true b5 v9 v41 v42 v43 v44 (.agg (bigA z256 y)) :=
  { (J.later hb) with h4 := fun _ => ⟨y, rfl, fy, oy.base (by have := J.size; omega), fun h b hb' e => by
      obtain ⟨g, e', l, r⟩ := J.h5 h
      rw [e'] at e
      have h1 := row_lt r
      have h2 := (oy.lo hb').1
      have e3 : g = b := by
        injection e with e1
        injection e1 with e2
        injection e2
      omega⟩ }
theorem Iq.op5 (J : Iq w ins nn w' b0 b1 b2 b3 b4 b5 v9 v41 v42 v43 v44 v45) : Iq w ins nn (w'.alloc (.cells (bigA z256 zMv) 80)) b0 b1 b2 b3 b4 true (.pointer (some ⟨w'.heap.size, 0, none⟩)) v41 v42 v43 v44 v45 := by
  have K := J.later (below_new w' (.cells (bigA z256 zMv) 80))
  refine { K with h4 := fun h => ?_, h5 := fun _ => ⟨_, rfl, by have := J.size; omega, heap_alloc_last w' _⟩ }
  obtain ⟨y, e, f, o, n⟩ := J.h4 h
  refine ⟨y, e, f, o.later (below_new _ _), fun _ b hb e' => ?_⟩
  have := (o.lo hb).2
  have e3 : w'.heap.size = b := by
    injection e' with e1
    injection e1 with e2
    injection e2
  omega
theorem Iq.op6 (J : Iq w ins nn w' b0 b1 b2 b3 true true v9 v41 v42 v43 v44 v45) : ∃ (g9 : Nat) (y : Mv), v9 = .pointer (some ⟨g9, 0, none⟩) ∧ v45 = .agg (bigA z256 y) ∧ w'.heap[g9]? = some (.cells (bigA z256 zMv) 80 (0, 0)) ∧ Ih w (w'.setRow g9 (bigA z256 y)) nn v9 g9 z256 y ⟨List.replicate 256 0, List.replicate 8 0, nn, []⟩ := by
  obtain ⟨y, e, f, o, n⟩ := J.h4 rfl
  obtain ⟨g, e', l, r⟩ := J.h5 rfl
  have hne : ∀ b, y.at b → b ≠ g := fun b hb e2 => n rfl b hb (by rw [e', e2])
  exact ⟨g, y, e', e, r, below_setRow J.bel (by omega) _, e', l, setRow_heap w' g _ _ 80 _ r, o.keepH fun b hb _ => setRow_other w' g b _ (hne b hb), f, hne⟩
end
structure Dq (f : Nat → Bool) : Prop where
  d3 : f 3 = true → f 0 = true ∧ f 1 = true ∧ f 2 = true
  d4 : f 4 = true → f 3 = true
  d6 : f 6 = true → f 0 = true ∧ f 1 = true ∧ f 2 = true ∧ f 3 = true ∧ f 4 = true ∧ f 5 = true
theorem dq_new : Dq (fun _ => false) := ⟨fun h => no h, fun h => no h, fun h => no h⟩
def Jq (w : World) (ins : Sl) (nn : List Int) (w' : World) (f : Nat → Bool) (v9 v41 v42 v43 v44 v45 : Value) : Prop :=
  Dq f ∧ (f 6 = false → Iq w ins nn w' (f 0) (f 1) (f 2) (f 3) (f 4) (f 5) v9 v41 v42 v43 v44 v45) ∧ (f 6 = true → ∃ (g9 : Nat) (y : Mv), Ih w w' nn v9 g9 z256 y ⟨List.replicate 256 0, List.replicate 8 0, nn, []⟩)
section
variable {w w' : World} {ins : Sl} {nn : List Int} {f : Nat → Bool} {v9 v41 v42 v43 v44 v45 : Value}
theorem jq_new (h : Below (w.heap.size + 1) (w.alloc (.cells zMv.cs 28)) w') : Jq w ins nn w' (fun _ => false) v9 v41 v42 v43 v44 v45 :=
  ⟨dq_new, fun _ => ⟨h, fun h => no h, fun h => no h, fun h => no h, fun h => no h, fun h => no h, fun h => no h⟩, fun h => no h⟩
theorem Jq.op0 (J : Jq w ins nn w' f v9 v41 v42 v43 v44 v45) (hf : f 0 = false) : Jq w ins nn (w'.alloc (.cells (zA 256) 3)) (fun j => if j = 0 then true else f j) v9 (.slice (some ⟨w'.heap.size, 0, none⟩) 256 256) v42 v43 v44 v45 := by
  have f3 := f_no (fun h => (J.1.d3 h).1) hf
  have f6 := f_no (fun h => (J.1.d6 h).1) hf
  have i := J.2.1 f6
  rw [f3] at i
  refine ⟨⟨fun h => ⟨rfl, (J.1.d3 h).2⟩, J.1.d4, fun h => ⟨rfl, (J.1.d6 h).2⟩⟩, fun _ => ?_, fun h => no (f6.symm.trans h)⟩
  show Iq w ins nn _ true (f 1) (f 2) (f 3) (f 4) (f 5) _ _ _ _ _ _
  rw [f3]
  exact i.op0
theorem Jq.op1 (J : Jq w ins nn w' f v9 v41 v42 v43 v44 v45) (hf : f 1 = false) : Jq w ins nn (w'.alloc (.cells (zA 8) 3)) (fun j => if j = 1 then true else f j) v9 v41 (.slice (some ⟨w'.heap.size, 0, none⟩) 8 8) v43 v44 v45 := by
  have f3 := f_no (fun h => (J.1.d3 h).2.1) hf
  have f6 := f_no (fun h => (J.1.d6 h).2.1) hf
  have i := J.2.1 f6
  rw [f3] at i
  refine ⟨⟨fun h => ⟨(J.1.d3 h).1, rfl, (J.1.d3 h).2.2⟩, J.1.d4, fun h => ⟨(J.1.d6 h).1, rfl, (J.1.d6 h).2.2⟩⟩, fun _ => ?_, fun h => no (f6.symm.trans h)⟩
  show Iq w ins nn _ (f 0) true (f 2) (f 3) (f 4) (f 5) _ _ _ _ _ _
  rw [f3]
  exact i.op1
theorem Jq.op2 (J : Jq w ins nn w' f v9 v41 v42 v43 v44 v45) (hf : f 2 = false) : Jq w ins nn w' (fun j => if j = 2 then true else f j) v9 v41 v42 (.slice ins.a ins.n ins.c) v44 v45 := by
  have f3 := f_no (fun h => (J.1.d3 h).2.2) hf
  have f6 := f_no (fun h => (J.1.d6 h).2.2.1) hf
  have i := J.2.1 f6
  rw [f3] at i
  refine ⟨⟨fun h => ⟨(J.1.d3 h).1, (J.1.d3 h).2.1, rfl⟩, J.1.d4, fun h => ⟨(J.1.d6 h).1, (J.1.d6 h).2.1, rfl, (J.1.d6 h).2.2.2⟩⟩, fun _ => ?_, fun h => no (f6.symm.trans h)⟩
  show Iq w ins nn _ (f 0) (f 1) true (f 3) (f 4) (f 5) _ _ _ _ _ _
  rw [f3]
  exact i.op2
theorem Jq.at3 (J : Jq w ins nn w' f v9 v41 v42 v43 v44 v45) (hf : f 3 = false) (h0 : f 0 = true) (h1 : f 1 = true) (h2 : f 2 = true) : ∃ s0 s1 : Sl, v41 = s0.v ∧ v42 = s1.v ∧ v43 = ins.v ∧ Jq w ins nn w' (fun j => if j = 3 then true else f j) v9 v41 v42 v43 (.agg (xOf s0 s1 ins).cs) v45 := by
  have f6 := f_no (fun h => (J.1.d6 h).2.2.2.1) hf
  have i := J.2.1 f6
  obtain ⟨g, e0, _⟩ := i.h0 h0
  obtain ⟨g', e1, _⟩ := i.h1 h1
  exact ⟨_, _, e0, e1, i.h2 h2, ⟨fun _ => ⟨h0, h1, h2⟩, fun _ => rfl, fun h => no (f6.symm.trans h)⟩, fun _ => i.op3 e0 e1, fun h => no (f6.symm.trans h)⟩
theorem Jq.at4 (J : Jq w ins nn w' f v9 v41 v42 v43 v44 v45) (hf : f 4 = false) (h3 : f 3 = true) (hn : RdN w ins.a nn) (ln : nn.length = ins.n) : ∃ x : Mv, v44 = .agg x.cs ∧ x.fl = zMv.fl ∧ RdM w' x ⟨List.replicate 256 0, List.replicate 8 0, nn, []⟩ ∧ (ins.nz → x.nz) ∧ (ins.n ≤ 1048576 → x.small) ∧
    ∀ (y : Mv) (w2 : World), y.fl = x.fl → OwnM w2 (w'.heap.size + 2) y ⟨List.replicate 256 0, List.replicate 8 0, nn, []⟩ → Below w'.heap.size w' w2 → Jq w ins nn w2 (fun j => if j = 4 then true else f j) v9 v41 v42 v43 v44 (.agg (bigA z256 y)) := by
  obtain ⟨h0, h1, h2⟩ := J.1.d3 h3
  have f6 := f_no (fun h => (J.1.d6 h).2.2.2.2.1) hf
  have i := J.2.1 f6
  obtain ⟨s0, s1, e0, e1, e44⟩ := i.h3 h3
  obtain ⟨g0, e0', r0⟩ := i.h0 h0
  obtain ⟨g1, e1', r1⟩ := i.h1 h1
  have q0 : s0 = ⟨some ⟨g0, 0, none⟩, 256, 256⟩ := by rw [e0] at e0'; cases s0; unfold Sl.v at e0'; simp at e0'; obtain ⟨rfl, rfl, rfl⟩ := e0'; rfl
  have q1 : s1 = ⟨some ⟨g1, 0, none⟩, 8, 8⟩ := by rw [e1] at e1'; cases s1; unfold Sl.v at e1'; simp at e1'; obtain ⟨rfl, rfl, rfl⟩ := e1'; rfl
  have n0 := (own_made (n := 256) r0 (Nat.zero_le _) (by omega))
  have n1 := (own_made (n := 8) r1 (Nat.zero_le _) (by omega))
  refine ⟨xOf s0 s1 ins, e44, rfl, ?_, ?_, ?_, fun y w2 fy oy hb => ⟨⟨J.1.d3, fun _ => h3, fun h => no (f6.symm.trans h)⟩, fun _ => i.op4 hb fy oy, fun h => no (f6.symm.trans h)⟩⟩
  · subst q0 q1
    exact ⟨n0.rd1, n1.rd1, hn.later i.low, .inl rfl, List.length_replicate .., List.length_replicate .., ln, rfl⟩
  · intro hz
    subst q0 q1
    exact ⟨fun e => by (cases e), fun e => by (cases e), hz, fun _ => rfl⟩
  · intro hz
    subst q0 q1
    exact ⟨by show 256 ≤ 1048576; omega, by show 8 ≤ 1048576; omega, hz, by show 0 ≤ 1048576; omega⟩
theorem Jq.op5 (J : Jq w ins nn w' f v9 v41 v42 v43 v44 v45) (hf : f 5 = false) : Jq w ins nn (w'.alloc (.cells (bigA z256 zMv) 80)) (fun j => if j = 5 then true else f j) (.pointer (some ⟨w'.heap.size, 0, none⟩)) v41 v42 v43 v44 v45 := by
  have f6 := f_no (fun h => (J.1.d6 h).2.2.2.2.2) hf
  have i := J.2.1 f6
  exact ⟨⟨J.1.d3, J.1.d4, fun h => no (f6.symm.trans h)⟩, fun _ => i.op5, fun h => no (f6.symm.trans h)⟩
theorem Jq.at6 (J : Jq w ins nn w' f v9 v41 v42 v43 v44 v45) (hf : f 6 = false) (h4 : f 4 = true) (h5 : f 5 = true) : ∃ (g9 : Nat) (y : Mv), v9 = .pointer (some ⟨g9, 0, none⟩) ∧ v45 = .agg (bigA z256 y) ∧ w'.heap[g9]? = some (.cells (bigA z256 zMv) 80 (0, 0)) ∧ Jq w ins nn (w'.setRow g9 (bigA z256 y)) (fun j => if j = 6 then true else f j) v9 v41 v42 v43 v44 v45 := by
  have h3 := J.1.d4 h4
  obtain ⟨h0, h1, h2⟩ := J.1.d3 h3
  have i := J.2.1 hf
  rw [h4, h5] at i
  obtain ⟨g9, y, e1, e2, r, k⟩ := i.op6
  exact ⟨g9, y, e1, e2, r, ⟨J.1.d3, J.1.d4, fun _ => ⟨h0, h1, h2, h3, h4, h5⟩⟩, fun h => no h.symm, fun _ => ⟨g9, y, k⟩⟩
end
end Go.Proofs.Ytfkmibgamkignaa
