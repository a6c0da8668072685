/- Contracts over this seat's translation, laid together; conditions stand as hypotheses of each. -/
import Derived.Test.YtjpbjbnialehbaaDoorAsA
import Derived.Test.YtjpbjbnialehbaaDoorAsC
import Derived.Test.YtjpbjbnialehbaaDoorAsD
import Derived.Test.YtjpbjbnialehbaaDoorAsE
import Derived.Maps.AppendAt
import Derived.Deep.RegionWith

namespace Go.Proofs.YtjpbjbnialehbaaDoor
open Go.ChangeShapes Go.WideShapes Go.ChangeAt Go.RowKit
set_option linter.unusedVariables false
set_option maxRecDepth 8000
set_option linter.unusedSimpArgs false
theorem laid_z : laidM (List.replicate 256 0) z256 = z256 := by
  unfold laidM
  rw [List.length_replicate, List.take_of_length_le (by rw [List.length_replicate]; omega), List.drop_eq_nil_of_le (by rw [z256_len]; omega), List.append_nil]
  rfl
theorem wp_alloc60 {o : Oper} {a : Act} {w : World} {K : Act → World → Prop} {Q : Exit → Act → World → Prop} (ho : o.op = .alloc 45) (h : K (a.put o.dst (.pointer (some ⟨w.heap.size, 0, none⟩))) (w.alloc (.cells (bigA z256 zMv) 45))) : o.wp Tryd.prog a w K Q := by
  have hz := (zero_of_info info60).1
  unfold Oper.wp execOp
  simp only [ho, Instr.alloc, hz, Sem.run_bind, Sem.run_pure, Result.andThen_ok]
  simp [go_sem]
  exact h
theorem wp_call37 {o : Oper} {a : Act} {w : World} {K : Act → World → Prop} {Q : Exit → Act → World → Prop} (x : Operand) (ho : o.op = .call { callee := .value (.func 17), args := #[x], argTypes := #[32] }) (v : Value) (hv : a.eval x = v) (R : Value → World → Prop)
    (hc : Calls Tryd.prog 17 #[v] w fun e w' => ∃ u, e = .returned u ∧ R u w') (h : ∀ u w', R u w' → K (a.put o.dst u) w') : o.wp Tryd.prog a w K Q := by
  have hrun : (execOp a.eval o).run Tryd.prog w = .ok (.enter 17 #[v]) w := by
    have he : a.eval (.func 17) = .func (.func 17) #[] #[] := rfl
    unfold execOp
    simp only [ho, resolve, he, List.map_toArray, List.map_cons, List.map_nil, hv]
    simp [go_sem]
  unfold Oper.wp
  rw [hrun, Oper.upon_enter]
  refine hc.mono ?_
  rintro e w' ⟨u, rfl, hu⟩
  exact h u w' hu
/-- The machine that is handed over to be copied. -/
def xOf (s0 s1 ins : Sl) : Mv := ⟨s0, s1, false, false, false, false, ins, ⟨none, 0, 0⟩, 0⟩
structure Iq (w : World) (ins : Sl) (nn : List Int) (w' : World) (b0 b1 b2 b3 b4 b5 : Bool) (v9 v41 v42 v43 v44 v45 : Value) : Prop where
  bel : Below (w.heap.size + 1) (w.alloc (.cells zMv.cs 32)) w'
  h0 : b0 = true → ∃ g, v41 = (Sl.mk (some ⟨g, 0, none⟩) 256 256).v ∧ w'.heap[g]? = some (.cells (zA 256) 3 (0, 0))
  h1 : b1 = true → ∃ g, v42 = (Sl.mk (some ⟨g, 0, none⟩) 8 8).v ∧ w'.heap[g]? = some (.cells (zA 8) 3 (0, 0))
  h2 : b2 = true → v43 = ins.v
  h3 : b3 = true → ∃ s0 s1 : Sl, v41 = s0.v ∧ v42 = s1.v ∧ v44 = .agg (xOf s0 s1 ins).cs
  h4 : b4 = true → ∃ y : Mv, v45 = .agg (bigA z256 y) ∧ y.fl = zMv.fl ∧ OwnM w' (w.heap.size + 1) y ⟨List.replicate 256 0, List.replicate 8 0, nn, []⟩ ∧ (b5 = true → ∀ b, y.at b → v9 ≠ .pointer (some ⟨b, 0, none⟩))
  h5 : b5 = true → ∃ g, v9 = .pointer (some ⟨g, 0, none⟩) ∧ w.heap.size < g ∧ w'.heap[g]? = some (.cells (bigA z256 zMv) 45 (0, 0))
/-- What stands at its end. -/
structure Ih (w w' : World) (nn : List Int) (v9 : Value) (g9 : Nat) (mem : List Int) (y : Mv) (d : Md) : Prop where
  bel : Below (w.heap.size + 1) (w.alloc (.cells zMv.cs 32)) w'
  p9 : v9 = .pointer (some ⟨g9, 0, none⟩)
  l9 : w.heap.size < g9
  r9 : w'.heap[g9]? = some (.cells (bigA mem y) 45 (0, 0))
  own : OwnM w' (w.heap.size + 1) y d
  fl : y.fl = zMv.fl
  ne : ∀ b, y.at b → b ≠ g9
section
variable {w w' : World} {ins : Sl} {nn : List Int} {b0 b1 b2 b3 b4 b5 : Bool} {v9 v41 v42 v43 v44 v45 : Value}
theorem Iq.low (J : Iq w ins nn w' b0 b1 b2 b3 b4 b5 v9 v41 v42 v43 v44 v45) : Below w.heap.size w w' := (below_new w (.cells zMv.cs 32)).trans (J.bel.mono (by omega))
theorem Iq.size (J : Iq w ins nn w' b0 b1 b2 b3 b4 b5 v9 v41 v42 v43 v44 v45) : w.heap.size + 1 ≤ w'.heap.size := by have := J.bel.size; have := alloc_size w (.cells zMv.cs 32); omega
/-- All stays behind what makes memory. -/
theorem Iq.later {w2 : World} (J : Iq w ins nn w' b0 b1 b2 b3 b4 b5 v9 v41 v42 v43 v44 v45) (hb : Below w'.heap.size w' w2) : Iq w ins nn w2 b0 b1 b2 b3 b4 b5 v9 v41 v42 v43 v44 v45 := by
  refine ⟨J.bel.trans (hb.mono J.size), fun h => ?_, fun h => ?_, J.h2, J.h3, fun h => ?_, fun h => ?_⟩
  · obtain ⟨g, e, r⟩ := J.h0 h; exact ⟨g, e, row_lat r hb⟩
  · obtain ⟨g, e, r⟩ := J.h1 h; exact ⟨g, e, row_lat r hb⟩
  · obtain ⟨y, e, f, o, n⟩ := J.h4 h; exact ⟨y, e, f, o.later hb, n⟩
  · obtain ⟨g, e, l, r⟩ := J.h5 h; exact ⟨g, e, l, row_lat r hb⟩
theorem Iq.op0 (J : Iq w ins nn w' b0 b1 b2 false b4 b5 v9 v41 v42 v43 v44 v45) : Iq w ins nn (w'.alloc (.cells (zA 256) 3)) true b1 b2 false b4 b5 v9 (.slice (some ⟨w'.heap.size, 0, none⟩) 256 256) v42 v43 v44 v45 :=
  { (J.later (below_new _ _)) with h0 := fun _ => ⟨_, rfl, heap_alloc_last w' _⟩, h3 := fun h => no h }
theorem Iq.op1 (J : Iq w ins nn w' b0 b1 b2 false b4 b5 v9 v41 v42 v43 v44 v45) : Iq w ins nn (w'.alloc (.cells (zA 8) 3)) b0 true b2 false b4 b5 v9 v41 (.slice (some ⟨w'.heap.size, 0, none⟩) 8 8) v43 v44 v45 :=
  { (J.later (below_new _ _)) with h1 := fun _ => ⟨_, rfl, heap_alloc_last w' _⟩, h3 := fun h => no h }
theorem Iq.op2 (J : Iq w ins nn w' b0 b1 b2 false b4 b5 v9 v41 v42 v43 v44 v45) : Iq w ins nn w' b0 b1 true false b4 b5 v9 v41 v42 ins.v v44 v45 :=
  { J with h2 := fun _ => rfl, h3 := fun h => no h }
theorem Iq.op3 (J : Iq w ins nn w' b0 b1 b2 b3 b4 b5 v9 v41 v42 v43 v44 v45) {s0 s1 : Sl} (e0 : v41 = s0.v) (e1 : v42 = s1.v) : Iq w ins nn w' b0 b1 b2 true b4 b5 v9 v41 v42 v43 (.agg (xOf s0 s1 ins).cs) v45 :=
  { J with h3 := fun _ => ⟨s0, s1, e0, e1, rfl⟩ }
theorem Iq.op4 (J : Iq w ins nn w' b0 b1 b2 b3 b4 b5 v9 v41 v42 v43 v44 v45) {w2 : World} (hb : Below w'.heap.size w' w2) {y : Mv} (fy : y.fl = zMv.fl) (oy : OwnM w2 (w'.heap.size + 2) y ⟨List.replicate 256 0, List.replicate 8 0, nn, []⟩) : Iq w ins nn w2 b0 b1 b2 b3 true b5 v9 v41 v42 v43 v44 (.agg (bigA z256 y)) :=
  { (J.later hb) with h4 := fun _ => ⟨y, rfl, fy, oy.base (by have := J.size; omega), fun h b hb' e => by
      obtain ⟨g, e', l, r⟩ := J.h5 h
      rw [e'] at e
      have h1 := row_lt r
      have h2 := (oy.lo hb').1
      have e3 : g = b := by
        injection e with e1
        injection e1 with e2
        injection e2
      omega⟩ }
theorem Iq.op5 (J : Iq w ins nn w' b0 b1 b2 b3 b4 b5 v9 v41 v42 v43 v44 v45) : Iq w ins nn (w'.alloc (.cells (bigA z256 zMv) 45)) b0 b1 b2 b3 b4 true (.pointer (some ⟨w'.heap.size, 0, none⟩)) v41 v42 v43 v44 v45 := by
  have K := J.later (below_new w' (.cells (bigA z256 zMv) 45))
  refine { K with h4 := fun h => ?_, h5 := fun _ => ⟨_, rfl, by have := J.size; omega, heap_alloc_last w' _⟩ }
  obtain ⟨y, e, f, o, n⟩ := J.h4 h
  refine ⟨y, e, f, o.later (below_new _ _), fun _ b hb e' => ?_⟩
  have := (o.lo hb).2
  have e3 : w'.heap.size = b := by
    injection e' with e1
    injection e1 with e2
    injection e2
  omega
theorem Iq.op6 (J : Iq w ins nn w' b0 b1 b2 b3 true true v9 v41 v42 v43 v44 v45) : ∃ (g9 : Nat) (y : Mv), v9 = .pointer (some ⟨g9, 0, none⟩) ∧ v45 = .agg (bigA z256 y) ∧ w'.heap[g9]? = some (.cells (bigA z256 zMv) 45 (0, 0)) ∧ Ih w (w'.setRow g9 (bigA z256 y)) nn v9 g9 z256 y ⟨List.replicate 256 0, List.replicate 8 0, nn, []⟩ := by
  obtain ⟨y, e, f, o, n⟩ := J.h4 rfl
  obtain ⟨g, e', l, r⟩ := J.h5 rfl
  have hne : ∀ b, y.at b → b ≠ g := fun b hb e2 => n rfl b hb (by rw [e', e2])
  exact ⟨g, y, e', e, r, below_setRow J.bel (by omega) _, e', l, setRow_heap w' g _ _ 45 _ r, o.keepH fun b hb _ => setRow_other w' g b _ (hne b hb), f, hne⟩
end
structure Dq (f : Nat → Bool) : Prop where
  d3 : f 3 = true → f 0 = true ∧ f 1 = true ∧ f 2 = true
  d4 : f 4 = true → f 3 = true
  d6 : f 6 = true → f 0 = true ∧ f 1 = true ∧ f 2 = true ∧ f 3 = true ∧ f 4 = true ∧ f 5 = true
theorem dq_new : Dq (fun _ => false) := ⟨fun h => no h, fun h => no h, fun h => no h⟩
def Jq (w : World) (ins : Sl) (nn : List Int) (w' : World) (f : Nat → Bool) (v9 v41 v42 v43 v44 v45 : Value) : Prop :=
  Dq f ∧ (f 6 = false → Iq w ins nn w' (f 0) (f 1) (f 2) (f 3) (f 4) (f 5) v9 v41 v42 v43 v44 v45) ∧ (f 6 = true → ∃ (g9 : Nat) (y : Mv), Ih w w' nn v9 g9 z256 y ⟨List.replicate 256 0, List.replicate 8 0, nn, []⟩)
section
variable {w w' : World} {ins : Sl} {nn : List Int} {f : Nat → Bool} {v9 v41 v42 v43 v44 v45 : Value}
theorem jq_new (h : Below (w.heap.size + 1) (w.alloc (.cells zMv.cs 32)) w') : Jq w ins nn w' (fun _ => false) v9 v41 v42 v43 v44 v45 :=
  ⟨dq_new, fun _ => ⟨h, fun h => no h, fun h => no h, fun h => no h, fun h => no h, fun h => no h, fun h => no h⟩, fun h => no h⟩
theorem Jq.op0 (J : Jq w ins nn w' f v9 v41 v42 v43 v44 v45) (hf : f 0 = false) : Jq w ins nn (w'.alloc (.cells (zA 256) 3)) (fun j => if j = 0 then true else f j) v9 (.slice (some ⟨w'.heap.size, 0, none⟩) 256 256) v42 v43 v44 v45 := by
  have f3 := f_no (fun h => (J.1.d3 h).1) hf
  have f6 := f_no (fun h => (J.1.d6 h).1) hf
  have i := J.2.1 f6
  rw [f3] at i
  refine ⟨⟨fun h => ⟨rfl, (J.1.d3 h).2⟩, J.1.d4, fun h => ⟨rfl, (J.1.d6 h).2⟩⟩, fun _ => ?_, fun h => no (f6.symm.trans h)⟩
  show Iq w ins nn _ true (f 1) (f 2) (f 3) (f 4) (f 5) _ _ _ _ _ _
  rw [f3]
  exact i.op0
theorem Jq.op1 (J : Jq w ins nn w' f v9 v41 v42 v43 v44 v45) (hf : f 1 = false) : Jq w ins nn (w'.alloc (.cells (zA 8) 3)) (fun j => if j = 1 then true else f j) v9 v41 (.slice (some ⟨w'.heap.size, 0, none⟩) 8 8) v43 v44 v45 := by
  have f3 := f_no (fun h => (J.1.d3 h).2.1) hf
  have f6 := f_no (fun h => (J.1.d6 h).2.1) hf
  have i := J.2.1 f6
  rw [f3] at i
  refine ⟨⟨fun h => ⟨(J.1.d3 h).1, rfl, (J.1.d3 h).2.2⟩, J.1.d4, fun h => ⟨(J.1.d6 h).1, rfl, (J.1.d6 h).2.2⟩⟩, fun _ => ?_, fun h => no (f6.symm.trans h)⟩
  show Iq w ins nn _ (f 0) true (f 2) (f 3) (f 4) (f 5) _ _ _ _ _ _
  rw [f3]
  exact i.op1
theorem Jq.op2 (J : Jq w ins nn w' f v9 v41 v42 v43 v44 v45) (hf : f 2 = false) : Jq w ins nn w' (fun j => if j = 2 then true else f j) v9 v41 v42 (.slice ins.a ins.n ins.c) v44 v45 := by
  have f3 := f_no (fun h => (J.1.d3 h).2.2) hf
  have f6 := f_no (fun h => (J.1.d6 h).2.2.1) hf
  have i := J.2.1 f6
  rw [f3] at i
  refine ⟨⟨fun h => ⟨(J.1.d3 h).1, (J.1.d3 h).2.1, rfl⟩, J.1.d4, fun h => ⟨(J.1.d6 h).1, (J.1.d6 h).2.1, rfl, (J.1.d6 h).2.2.2⟩⟩, fun _ => ?_, fun h => no (f6.symm.trans h)⟩
  show Iq w ins nn _ (f 0) (f 1) true (f 3) (f 4) (f 5) _ _ _ _ _ _
  rw [f3]
  exact i.op2
theorem Jq.at3 (J : Jq w ins nn w' f v9 v41 v42 v43 v44 v45) (hf : f 3 = false) (h0 : f 0 = true) (h1 : f 1 = true) (h2 : f 2 = true) : ∃ s0 s1 : Sl, v41 = s0.v ∧ v42 = s1.v ∧ v43 = ins.v ∧ Jq w ins nn w' (fun j => if j = 3 then true else f j) v9 v41 v42 v43 (.agg (xOf s0 s1 ins).cs) v45 := by
  have f6 := f_no (fun h => (J.1.d6 h).2.2.2.1) hf
  have i := J.2.1 f6
  obtain ⟨g, e0, _⟩ := i.h0 h0
  obtain ⟨g', e1, _⟩ := i.h1 h1
  exact ⟨_, _, e0, e1, i.h2 h2, ⟨fun _ => ⟨h0, h1, h2⟩, fun _ => rfl, fun h => no (f6.symm.trans h)⟩, fun _ => i.op3 e0 e1, fun h => no (f6.symm.trans h)⟩
theorem Jq.at4 (J : Jq w ins nn w' f v9 v41 v42 v43 v44 v45) (hf : f 4 = false) (h3 : f 3 = true) (hn : RdN w ins.a nn) (ln : nn.length = ins.n) : ∃ x : Mv, v44 = .agg x.cs ∧ x.fl = zMv.fl ∧ RdM w' x ⟨List.replicate 256 0, List.replicate 8 0, nn, []⟩ ∧ (ins.nz → x.nz) ∧ (ins.n ≤ 1048576 → x.small) ∧
    ∀ (y : Mv) (w2 : World), y.fl = x.fl → OwnM w2 (w'.heap.size + 2) y ⟨List.replicate 256 0, List.replicate 8 0, nn, []⟩ → Below w'.heap.size w' w2 → Jq w ins nn w2 (fun j => if j = 4 then true else f j) v9 v41 v42 v43 v44 (.agg (bigA z256 y)) := by
  obtain ⟨h0, h1, h2⟩ := J.1.d3 h3
  have f6 := f_no (fun h => (J.1.d6 h).2.2.2.2.1) hf
  have i := J.2.1 f6
  obtain ⟨s0, s1, e0, e1, e44⟩ := i.h3 h3
  obtain ⟨g0, e0', r0⟩ := i.h0 h0
  obtain ⟨g1, e1', r1⟩ := i.h1 h1
  have q0 : s0 = ⟨some ⟨g0, 0, none⟩, 256, 256⟩ := by rw [e0] at e0'; cases s0; unfold Sl.v at e0'; simp at e0'; obtain ⟨rfl, rfl, rfl⟩ := e0'; rfl
  have q1 : s1 = ⟨some ⟨g1, 0, none⟩, 8, 8⟩ := by rw [e1] at e1'; cases s1; unfold Sl.v at e1'; simp at e1'; obtain ⟨rfl, rfl, rfl⟩ := e1'; rfl
  have n0 := (own_made (n := 256) r0 (Nat.zero_le _) (by omega))
  have n1 := (own_made (n := 8) r1 (Nat.zero_le _) (by omega))
  refine ⟨xOf s0 s1 ins, e44, rfl, ?_, ?_, ?_, fun y w2 fy oy hb => ⟨⟨J.1.d3, fun _ => h3, fun h => no (f6.symm.trans h)⟩, fun _ => i.op4 hb fy oy, fun h => no (f6.symm.trans h)⟩⟩
  · subst q0 q1
    exact ⟨n0.rd1, n1.rd1, hn.later i.low, .inl rfl, List.length_replicate .., List.length_replicate .., ln, rfl⟩
  · intro hz
    subst q0 q1
    exact ⟨fun e => by (cases e), fun e => by (cases e), hz, fun _ => rfl⟩
  · intro hz
    subst q0 q1
    exact ⟨by show 256 ≤ 1048576; omega, by show 8 ≤ 1048576; omega, hz, by show 0 ≤ 1048576; omega⟩
theorem Jq.op5 (J : Jq w ins nn w' f v9 v41 v42 v43 v44 v45) (hf : f 5 = false) : Jq w ins nn (w'.alloc (.cells (bigA z256 zMv) 45)) (fun j => if j = 5 then true else f j) (.pointer (some ⟨w'.heap.size, 0, none⟩)) v41 v42 v43 v44 v45 := by
  have f6 := f_no (fun h => (J.1.d6 h).2.2.2.2.2) hf
  have i := J.2.1 f6
  exact ⟨⟨J.1.d3, J.1.d4, fun h => no (f6.symm.trans h)⟩, fun _ => i.op5, fun h => no (f6.symm.trans h)⟩
theorem Jq.at6 (J : Jq w ins nn w' f v9 v41 v42 v43 v44 v45) (hf : f 6 = false) (h4 : f 4 = true) (h5 : f 5 = true) : ∃ (g9 : Nat) (y : Mv), v9 = .pointer (some ⟨g9, 0, none⟩) ∧ v45 = .agg (bigA z256 y) ∧ w'.heap[g9]? = some (.cells (bigA z256 zMv) 45 (0, 0)) ∧ Jq w ins nn (w'.setRow g9 (bigA z256 y)) (fun j => if j = 6 then true else f j) v9 v41 v42 v43 v44 v45 := by
  have h3 := J.1.d4 h4
  obtain ⟨h0, h1, h2⟩ := J.1.d3 h3
  have i := J.2.1 hf
  rw [h4, h5] at i
  obtain ⟨g9, y, e1, e2, r, k⟩ := i.op6
  exact ⟨g9, y, e1, e2, r, ⟨J.1.d3, J.1.d4, fun _ => ⟨h0, h1, h2, h3, h4, h5⟩⟩, fun h => no h.symm, fun _ => ⟨g9, y, k⟩⟩
end
end Go.Proofs.YtjpbjbnialehbaaDoor

namespace Go.Proofs.YtjpbjbnialehbaaDoor
open Go.ChangeShapes Go.WideShapes Go.ChangeAt Go.RowKit
set_option linter.unusedVariables false
set_option maxRecDepth 8000
set_option linter.unusedSimpArgs false
theorem newB_ad (im : List Int) (a st : Int) (ins : List Int) : newB im a st ins = (adB a && (decide ((im.length : Int) ≤ 256 - a / 2) && (wdB im && (inB st 0 65535 && (decide ((ins.length : Int) ≤ 50) && wdB ins))))) := by
  unfold newB adB
  rw [Bool.and_assoc]
theorem sl_form {w : World} {B : Nat} {s : Sl} {ns : List Int} (h : OwnN w B s.v ns) (h0 : 0 < ns.length) : ∃ g c, s = ⟨some ⟨g, 0, none⟩, ns.length, c⟩ := by
  obtain ⟨sa, sn, sc⟩ := s
  rcases h.form with ⟨_, e0⟩ | ⟨g, cap, e, _⟩
  · rw [e0] at h0; simp at h0
  · unfold Sl.v at e
    simp at e
    exact ⟨g, cap, by rw [e.1, e.2.1, e.2.2]⟩
theorem Ih.setR {w wr : World} {nn mem : List Int} {v9 : Value} {y : Mv} {g9 gr n c : Nat} {d : Md} (h : Ih w wr nn v9 g9 mem y d) (hm : y.r = ⟨some ⟨gr, 0, none⟩, n, c⟩) (k : Nat) (v : Int) (hk : k < d.r.length) : Ih w (wr.setCell ⟨gr, k, none⟩ (.int .i64 v)) nn v9 g9 mem y ⟨d.m, d.r.set k v, d.i, d.o⟩ := by
  have e : y.r.v = .slice (some ⟨gr, 0, none⟩) n c := by rw [hm]; rfl
  have o := h.own.r
  rw [e] at o
  have s := o.set k v hk
  have hat : y.at gr := .inr (.inl (by rw [e]; rfl))
  have := h.own.lo hat
  exact ⟨h.bel.setCell (p := ⟨gr, k, none⟩) this.1 _, h.p9, h.l9, row_keep h.r9 (fun e => h.ne gr hat e.symm), h.own.putR (by rw [e]; exact s.2) (by rw [e]; exact s.1), h.fl, h.ne⟩
theorem Ih.cellR {w wr : World} {nn mem : List Int} {v9 : Value} {y : Mv} {g9 gr n c : Nat} {d : Md} (h : Ih w wr nn v9 g9 mem y d) (hm : y.r = ⟨some ⟨gr, 0, none⟩, n, c⟩) (k : Nat) (hk : k < d.r.length) : wr.cell? ⟨gr, k, none⟩ = some (.int .i64 (nAt d.r k)) ∧ wr.frozen? ⟨gr, k, none⟩ = false := by
  have o := h.own.r
  rw [hm] at o
  exact OwnN.cellAt (b := gr) (n := n) (cap := c) o k hk
theorem Ih.re {w wr : World} {nn mem : List Int} {v9 : Value} {y : Mv} {g9 : Nat} {d : Md} (h : Ih w wr nn v9 g9 mem y d) : wr.heap[w.heap.size]? = some (.cells zMv.cs 32 (0, 0)) := (h.bel.block w.heap.size (by omega)).trans (heap_alloc_last w _)
theorem Ih.low {w wr : World} {nn mem : List Int} {v9 : Value} {y : Mv} {g9 : Nat} {d : Md} (h : Ih w wr nn v9 g9 mem y d) : Below w.heap.size w wr := (below_new w (.cells zMv.cs 32)).trans (h.bel.mono (by omega))
set_option maxHeartbeats 4000000 in
theorem newI_no (im ins : Sl) (ni nn : List Int) (a st : Int) (w : World) (hi : RdN w im.a ni) (hn : RdN w ins.a nn) (li : ni.length = im.n) (ln : nn.length = ins.n) (si : im.n ≤ 1048576) (sn : ins.n ≤ 1048576) (hb : newB ni a st nn = false) :
    Calls Tryd.prog 7 #[.slice im.a im.n im.c, .int .i64 a, .int .i64 st, .slice ins.a ins.n ins.c] w fun e w' => e = .returned (.agg zMv.cs) ∧ Below w.heap.size w w' := by
  have HB := hide (below_new w (.cells #[Value.slice none 0 0, Value.slice none 0 0, Value.bool false, Value.bool false, Value.bool false, Value.bool false, Value.slice none 0 0, Value.slice none 0 0, Value.int .i64 0] 32))
  have HB2 := hide (below_new w (.cells zMv.cs 32))
  have W0 := hide (wordsI_any im.a im.n im.c ni _ li (by omega) (hi.later (unhide HB)))
  have W1 := hide (wordsI_any ins.a ins.n ins.c nn _ ln (by omega) (hn.later (unhide HB)))
  have I0 := hide (fun w => isAddr_any a w)
  have I1 := hide (fun w => isWord_any st w)
  rw [newB_ad, li, ln] at hb
  clear hi hn
  have IB := hide (adB_t (a := a))
  generalize wdB ni = b2 at W0 hb
  generalize wdB nn = b4 at W1 hb
  generalize adB a = b0 at I0 hb IB
  generalize inB st 0 65535 = b3 at I1 hb
  cases b0
  · clear hb
    go_enter Tryd.func7, Tryd.ntmps7
    go_wp2_with (first | (go_at_call 14; refine (unhide I0 _).mono ?_; rintro e w' ⟨rfl, rfl⟩) | (go_at_call 16; refine (unhide I1 _).mono ?_; rintro e w' ⟨rfl, rfl⟩) | (go_at_call_of 15 (Value.slice im.a im.n im.c); refine (unhide W0).mono ?_; rintro e w' ⟨rfl, rfl⟩) | (go_at_call_of 15 (Value.slice ins.a ins.n ins.c); refine (unhide W1).mono ?_; rintro e w' ⟨rfl, rfl⟩) | (refine wpList_store_new rfl 32 _ _ rfl zMv.cs rfl rfl _ (by kernel_rfl) rfl (Mv.cs_one _) ?_))
    refine bodyPost_ret (results_cell_row (P := Tryd.prog) rfl _ _ w.heap.size 32 zMv.cs (0, 0) _ rfl (heap_alloc_last w _) Tryd.underlying32 rfl (by kernel_rfl)) rfl ?_
    exact ⟨rfl, unhide HB2⟩
  obtain ⟨a0, a1, h1⟩ := unhide IB (by trivial)
  clear IB
  have g0 : 0 ≤ a % 2 := by omega
  have g1 : a % 2 ≤ 0 := by omega
  clear h1
  by_cases h2 : (im.n : Int) ≤ 256 - a / 2
  rotate_left
  · clear hb
    go_enter Tryd.func7, Tryd.ntmps7
    go_wp2_with (first | (go_at_call 14; refine (unhide I0 _).mono ?_; rintro e w' ⟨rfl, rfl⟩) | (go_at_call 16; refine (unhide I1 _).mono ?_; rintro e w' ⟨rfl, rfl⟩) | (go_at_call_of 15 (Value.slice im.a im.n im.c); refine (unhide W0).mono ?_; rintro e w' ⟨rfl, rfl⟩) | (go_at_call_of 15 (Value.slice ins.a ins.n ins.c); refine (unhide W1).mono ?_; rintro e w' ⟨rfl, rfl⟩) | (refine wpList_store_new rfl 32 _ _ rfl zMv.cs rfl rfl _ (by kernel_rfl) rfl (Mv.cs_one _) ?_))
    refine bodyPost_ret (results_cell_row (P := Tryd.prog) rfl _ _ w.heap.size 32 zMv.cs (0, 0) _ rfl (heap_alloc_last w _) Tryd.underlying32 rfl (by kernel_rfl)) rfl ?_
    exact ⟨rfl, unhide HB2⟩
  rw [decide_eq_true h2] at hb
  cases b2
  · clear hb
    go_enter Tryd.func7, Tryd.ntmps7
    go_wp2_with (first | (go_at_call 14; refine (unhide I0 _).mono ?_; rintro e w' ⟨rfl, rfl⟩) | (go_at_call 16; refine (unhide I1 _).mono ?_; rintro e w' ⟨rfl, rfl⟩) | (go_at_call_of 15 (Value.slice im.a im.n im.c); refine (unhide W0).mono ?_; rintro e w' ⟨rfl, rfl⟩) | (go_at_call_of 15 (Value.slice ins.a ins.n ins.c); refine (unhide W1).mono ?_; rintro e w' ⟨rfl, rfl⟩) | (refine wpList_store_new rfl 32 _ _ rfl zMv.cs rfl rfl _ (by kernel_rfl) rfl (Mv.cs_one _) ?_))
    refine bodyPost_ret (results_cell_row (P := Tryd.prog) rfl _ _ w.heap.size 32 zMv.cs (0, 0) _ rfl (heap_alloc_last w _) Tryd.underlying32 rfl (by kernel_rfl)) rfl ?_
    exact ⟨rfl, unhide HB2⟩
  cases b4
  · clear hb
    go_enter Tryd.func7, Tryd.ntmps7
    go_wp2_with (first | (go_at_call 14; refine (unhide I0 _).mono ?_; rintro e w' ⟨rfl, rfl⟩) | (go_at_call 16; refine (unhide I1 _).mono ?_; rintro e w' ⟨rfl, rfl⟩) | (go_at_call_of 15 (Value.slice im.a im.n im.c); refine (unhide W0).mono ?_; rintro e w' ⟨rfl, rfl⟩) | (go_at_call_of 15 (Value.slice ins.a ins.n ins.c); refine (unhide W1).mono ?_; rintro e w' ⟨rfl, rfl⟩) | (refine wpList_store_new rfl 32 _ _ rfl zMv.cs rfl rfl _ (by kernel_rfl) rfl (Mv.cs_one _) ?_))
    refine bodyPost_ret (results_cell_row (P := Tryd.prog) rfl _ _ w.heap.size 32 zMv.cs (0, 0) _ rfl (heap_alloc_last w _) Tryd.underlying32 rfl (by kernel_rfl)) rfl ?_
    exact ⟨rfl, unhide HB2⟩
  cases b3
  · clear hb
    go_enter Tryd.func7, Tryd.ntmps7
    go_wp2_with (first | (go_at_call 14; refine (unhide I0 _).mono ?_; rintro e w' ⟨rfl, rfl⟩) | (go_at_call 16; refine (unhide I1 _).mono ?_; rintro e w' ⟨rfl, rfl⟩) | (go_at_call_of 15 (Value.slice im.a im.n im.c); refine (unhide W0).mono ?_; rintro e w' ⟨rfl, rfl⟩) | (go_at_call_of 15 (Value.slice ins.a ins.n ins.c); refine (unhide W1).mono ?_; rintro e w' ⟨rfl, rfl⟩) | (refine wpList_store_new rfl 32 _ _ rfl zMv.cs rfl rfl _ (by kernel_rfl) rfl (Mv.cs_one _) ?_))
    refine bodyPost_ret (results_cell_row (P := Tryd.prog) rfl _ _ w.heap.size 32 zMv.cs (0, 0) _ rfl (heap_alloc_last w _) Tryd.underlying32 rfl (by kernel_rfl)) rfl ?_
    exact ⟨rfl, unhide HB2⟩
  by_cases h4 : (ins.n : Int) ≤ 50
  rotate_left
  · clear hb
    go_enter Tryd.func7, Tryd.ntmps7
    go_wp2_with (first | (go_at_call 14; refine (unhide I0 _).mono ?_; rintro e w' ⟨rfl, rfl⟩) | (go_at_call 16; refine (unhide I1 _).mono ?_; rintro e w' ⟨rfl, rfl⟩) | (go_at_call_of 15 (Value.slice im.a im.n im.c); refine (unhide W0).mono ?_; rintro e w' ⟨rfl, rfl⟩) | (go_at_call_of 15 (Value.slice ins.a ins.n ins.c); refine (unhide W1).mono ?_; rintro e w' ⟨rfl, rfl⟩) | (refine wpList_store_new rfl 32 _ _ rfl zMv.cs rfl rfl _ (by kernel_rfl) rfl (Mv.cs_one _) ?_))
    refine bodyPost_ret (results_cell_row (P := Tryd.prog) rfl _ _ w.heap.size 32 zMv.cs (0, 0) _ rfl (heap_alloc_last w _) Tryd.underlying32 rfl (by kernel_rfl)) rfl ?_
    exact ⟨rfl, unhide HB2⟩
  rw [decide_eq_true h4] at hb
  simp at hb
set_option maxHeartbeats 4000000 in
theorem newI_yes (im ins : Sl) (ni nn : List Int) (a st : Int) (w : World) (hi : RdN w im.a ni) (hn : RdN w ins.a nn) (li : ni.length = im.n) (ln : nn.length = ins.n) (nz : ins.nz) (hb : newB ni a st nn = true) :
    Calls Tryd.prog 7 #[.slice im.a im.n im.c, .int .i64 a, .int .i64 st, .slice ins.a ins.n ins.c] w fun e w' => ∃ y : Mv, e = .returned (.agg y.cs) ∧ y.fl = zMv.fl ∧ OwnM w' (w.heap.size + 1) y ⟨over z256 (a / 2).toNat ni, newR st, nn, []⟩ ∧ Below w.heap.size w w' := by
  obtain ⟨p0, p1, p2, p3, p4, p5, p6⟩ := newB_parts hb
  have HB := hide (below_new w (.cells #[Value.slice none 0 0, Value.slice none 0 0, Value.bool false, Value.bool false, Value.bool false, Value.bool false, Value.slice none 0 0, Value.slice none 0 0, Value.int .i64 0] 32))
  obtain ⟨a0, a1⟩ := inB_b p0
  have W0 := hide (p3 ▸ wordsI_any im.a im.n im.c ni _ li (by omega) (hi.later (unhide HB)))
  have W1 := hide (p6 ▸ wordsI_any ins.a ins.n ins.c nn _ ln (by omega) (hn.later (unhide HB)))
  have I0 := hide (fun w => (adB_i a0 a1 p1) ▸ isAddr_any a w)
  have I1 := hide (fun w => p4 ▸ isWord_any st w)
  have HI := hide hi
  have HN := hide hn
  have LI := hide li
  have LN := hide ln
  have P1 := hide p1
  have P3 := hide p3
  rw [li] at p2
  rw [ln] at p5
  have g0 : 0 ≤ a % 2 := by omega
  have g1 : a % 2 ≤ 0 := by omega
  have NZ := hide nz
  have S50 := hide p5
  clear hi hn li ln p0 p1 p3 p4 p6 hb nz
  go_enter Tryd.func7, Tryd.ntmps7
  go_wp2_with (first | (go_at_call 14; refine (unhide I0 _).mono ?_; rintro e w' ⟨rfl, rfl⟩) | (go_at_call 16; refine (unhide I1 _).mono ?_; rintro e w' ⟨rfl, rfl⟩) | (go_at_call_of 15 (Value.slice im.a im.n im.c); refine (unhide W0).mono ?_; rintro e w' ⟨rfl, rfl⟩) | (go_at_call_of 15 (Value.slice ins.a ins.n ins.c); refine (unhide W1).mono ?_; rintro e w' ⟨rfl, rfl⟩))
  refine wp_region_inv (fun f a' w' => ∃ v9 v41 v42 v43 v44 v45 : Value, a' = ⟨#[_, _, _, _, _, _, _, _, _, v9, _, _, _, _, _, _, _, _, _, _, _, _, _, _, _, _, _, _, _, _, _, _, _, _, _, _, _, _, _, _, _, v41, v42, v43, v44, v45, _, _, _, _, _, _, _, _, _, _, _, _, _, _], []⟩ ∧ Jq w ins nn w' f v9 v41 v42 v43 v44 v45) (by kernel_rfl) ⟨undef, undef, undef, undef, undef, undef, rfl, jq_new ⟨rfl, rfl, rfl, Nat.le_refl _, fun _ _ => rfl⟩⟩ (by kernel_rfl) ?_ ?_
  · intro i o ho f a' w' hI hf hd K2 hK2
    obtain ⟨v9, v41, v42, v43, v44, v45, rfl, J⟩ := hI
    have hi8 : i < 7 := by have := (Array.getElem?_eq_some_iff.1 ho).1; simpa using this
    obtain rfl | rfl | rfl | rfl | rfl | rfl | rfl : i = 0 ∨ i = 1 ∨ i = 2 ∨ i = 3 ∨ i = 4 ∨ i = 5 ∨ i = 6 := by omega
    · obtain rfl := Option.some.inj ho
      rw [if_pos (by rfl)]
      refine wp_make 256 made256 (by omega) rfl ?_
      exact hK2 _ _ ⟨v9, _, v42, v43, v44, v45, rfl, J.op0 hf⟩
    · obtain rfl := Option.some.inj ho
      rw [if_pos (by rfl)]
      refine wp_make 8 made8 (by omega) rfl ?_
      exact hK2 _ _ ⟨v9, v41, _, v43, v44, v45, rfl, J.op1 hf⟩
    · obtain rfl := Option.some.inj ho
      rw [if_pos (by rfl)]
      refine wp_move _ rfl ?_
      exact hK2 _ _ ⟨v9, v41, v42, _, v44, v45, rfl, J.op2 hf⟩
    · obtain rfl := Option.some.inj ho
      rw [if_pos (by rfl)]
      obtain ⟨s0, s1, e0, e1, e2, J3⟩ := J.at3 hf (hd ⟨0, .data⟩ (by simp) rfl) (hd ⟨1, .data⟩ (by simp) rfl) (hd ⟨2, .data⟩ (by simp) rfl)
      refine wp_build28 _ _ _ rfl s0 s1 ins e0 e1 e2 ?_
      exact hK2 _ _ ⟨v9, v41, v42, v43, _, v45, rfl, J3⟩
    · obtain rfl := Option.some.inj ho
      rw [if_pos (by rfl)]
      obtain ⟨x, e44, fx, rx, zx, sx, step⟩ := J.at4 hf (hd ⟨3, .data⟩ (by simp) rfl) (unhide HN) (unhide LN)
      refine wp_call37 _ rfl (.agg x.cs) e44 (fun u w2 => ∃ y : Mv, u = .agg (bigA z256 y) ∧ y.fl = x.fl ∧ OwnM w2 (w'.heap.size + 2) y ⟨List.replicate 256 0, List.replicate 8 0, nn, []⟩ ∧ Below w'.heap.size w' w2) ?_ ?_
      · refine (machineOf_any x _ w' (sx (by have := unhide S50; omega)) (zx (unhide NZ)) rx).mono ?_
        rintro e w2 ⟨y, rfl, fy, oy, hb⟩
        refine ⟨_, rfl, y, ?_, fy, oy, hb⟩
        rw [laid_z]
      · rintro u w2 ⟨y, rfl, fy, oy, hb⟩
        exact hK2 _ _ ⟨v9, v41, v42, v43, v44, _, rfl, step y w2 fy oy hb⟩
    · obtain rfl := Option.some.inj ho
      rw [if_pos (by rfl)]
      refine wp_alloc60 rfl ?_
      exact hK2 _ _ ⟨_, v41, v42, v43, v44, v45, rfl, J.op5 hf⟩
    · obtain rfl := Option.some.inj ho
      rw [if_pos (by rfl)]
      obtain ⟨g9, y, e9, e45, r9, k⟩ := J.at6 hf (hd ⟨4, .data⟩ (by simp) rfl) (hd ⟨5, .data⟩ (by simp) rfl)
      refine wp_store_row 45 _ _ rfl g9 (bigA z256 y) e9 e45 45 (bigA z256 zMv) r9 (size60 y z256 z256_len) (by rw [bigA_size y z256_len, bigA_size zMv z256_len]) (bigA_one _ _) ?_
      exact hK2 _ _ ⟨v9, v41, v42, v43, v44, v45, rfl, k⟩
  · intro f a' w' hI hall
    obtain ⟨v9, v41, v42, v43, v44, v45, rfl, J⟩ := hI
    obtain ⟨g9, y, E⟩ := J.2.2 (hall 6 (by simp))
    have e9 := E.p9
    subst e9
    have EE := hide E
    have ld := (below_new w (.cells zMv.cs 32)).trans (E.bel.mono (by omega))
    have SW := hide (setWords_any g9 a im ni z256 y w' a0 a1 (unhide P1) (unhide LI) p2 (unhide P3) z256_len E.r9 ((unhide HI).later ld) (by
      rcases (unhide HI) with h0 | ⟨b, off, e, hb, _⟩
      · exact .inl h0
      · exact .inr fun ad e' => by rw [e] at e'; cases e'; have := E.l9; show b ≠ g9; omega))
    clear E J hall ld W0 W1 I0 I1 HB
    go_wp2_with fail
    refine (unhide SW).mono ?_
    rintro e w2 ⟨rfl, r2, g2⟩
    have E := unhide EE
    have n2 : Ih w w2 nn (.pointer (some ⟨g9, 0, none⟩)) g9 (over z256 (a / 2).toNat ni) y ⟨List.replicate 256 0, List.replicate 8 0, nn, []⟩ :=
      ⟨E.bel.grown g2 (by have := E.bel.size; have := alloc_size w (.cells zMv.cs 32); omega) (fun b e => by cases e; have := E.l9; omega), rfl, E.l9, r2, E.own.keepH fun b hb hl => g2.block b hl (by have := E.ne b hb; simp; omega), E.fl, E.ne⟩
    have N2 := hide n2
    have LE := hide (show (over z256 (a / 2).toNat ni).length = 256 by
      have h1 := unhide LI
      rw [over_len _ _ _ (by rw [z256_len]; omega), z256_len])
    clear r2 g2 SW EE n2 E
    obtain ⟨gr, rc, hgr⟩ : ∃ gr rc, y.r = ⟨some ⟨gr, 0, none⟩, 8, rc⟩ := by
      obtain ⟨g, c, e⟩ := sl_form (unhide N2).own.r (by simp)
      exact ⟨g, c, e⟩
    have hat : y.at gr := .inr (.inl (by rw [hgr]; rfl))
    have ng := (unhide N2).ne gr hat
    have ng2 : g9 ≠ gr := fun e => ng e.symm
    obtain ⟨c6, f6⟩ := (unhide N2).cellR hgr 6 (by simp)
    obtain ⟨c7, f7⟩ := (unhide N2).cellR hgr 7 (by simp)
    have c9 : w2.cell? ⟨g9, 257, none⟩ = some (.slice (some ⟨gr, 0, none⟩) 8 rc) := big_cell (unhide N2).r9 (unhide LE) 1 _ (show y.cs[1]? = some (.slice (some ⟨gr, 0, none⟩) 8 rc) by have e : y.cs[1]? = some y.r.v := rfl; rw [e, hgr]; rfl)
    have N3 := hide (((unhide N2).setR hgr 6 512 (by simp)).setR hgr 7 st (by simp))
    have AN := hide (answer_any g9 (w.heap.size + 1) _ y _ _ (unhide LE) (unhide N3).r9 (unhide N3).own (fun e => (unhide N3).ne g9 (.inl e.symm) rfl))
    clear hat hgr
    go_wp2_with fail
    refine (unhide AN).mono ?_
    rintro e w4 ⟨rfl, o4, g4⟩
    have e4 : (over z256 (a / 2).toNat ni).take (List.replicate 256 (0 : Int)).length ++ (List.replicate 256 (0 : Int)).drop 256 = over z256 (a / 2).toNat ni := by
      rw [List.length_replicate, List.take_of_length_le (by rw [unhide LE]; omega), List.drop_eq_nil_of_le (by rw [List.length_replicate]; omega), List.append_nil]
    have O4 := hide (show OwnM w4 (w.heap.size + 1) y ⟨over z256 (a / 2).toNat ni, newR st, nn, []⟩ by rw [← e4]; exact o4)
    have R4 := hide ((g4.block w.heap.size (row_lt (unhide N3).re) (own_ne (unhide N3).own.m (.inl (by omega)))).trans (unhide N3).re)
    have B4 := hide ((unhide N3).low.grown g4 (unhide N3).low.size (fun b e => by have := ((unhide N3).own.m.lt e).1; omega))
    have FL := hide (unhide N3).fl
    clear o4 g4 AN e4 N2 N3 c6 c7 f6 f7 c9
    go_wp2_with (refine wpList_store_row rfl 32 _ _ rfl w.heap.size y.cs rfl rfl 32 zMv.cs (unhide R4) (by kernel_rfl) rfl (Mv.cs_one _) ?_)
    refine bodyPost_ret (results_cell_row (P := Tryd.prog) rfl _ _ w.heap.size 32 y.cs (0, 0) _ rfl (setRow_heap _ _ _ _ 32 _ (unhide R4)) Tryd.underlying32 rfl (by kernel_rfl)) rfl ?_
    exact ⟨y, rfl, unhide FL, (unhide O4).row (by omega) _, below_setRow (unhide B4) (Nat.le_refl _) _⟩
end Go.Proofs.YtjpbjbnialehbaaDoor

namespace Go.Proofs.YtjpbjbnialehbaaDoor
open Go.ChangeShapes Go.WideShapes Go.ChangeAt Go.RowKit
set_option linter.unusedVariables false
set_option maxRecDepth 8000
set_option linter.unusedSimpArgs false
theorem newI_any (im ins : Sl) (ni nn : List Int) (a st : Int) (w : World) (hi : RdN w im.a ni) (hn : RdN w ins.a nn) (li : ni.length = im.n) (ln : nn.length = ins.n) (si : im.n ≤ 1048576) (sn : ins.n ≤ 1048576) (nz : ins.nz) :
    Calls Tryd.prog 7 #[.slice im.a im.n im.c, .int .i64 a, .int .i64 st, .slice ins.a ins.n ins.c] w fun e w' => ∃ y : Mv, e = .returned (.agg y.cs) ∧ y.fl = zMv.fl ∧ OwnM w' (w.heap.size + 1) y (newD ni a st nn) ∧ Below w.heap.size w w' := by
  unfold newD
  cases hb : newB ni a st nn
  · exact (newI_no im ins ni nn a st w hi hn li ln si sn hb).mono fun e w' ⟨he, hb⟩ => ⟨zMv, he, rfl, by rw [if_neg (by simp)]; exact own_zero _ _, hb⟩
  · rw [if_pos rfl]
    exact newI_yes im ins ni nn a st w hi hn li ln nz hb
section
variable {W w w' : World} {im ins : Sl} {ni nn ns : List Int} {row : Option Nat} {y : Mv} {d : Md} {s : Sl} {B : Nat}
end
end Go.Proofs.YtjpbjbnialehbaaDoor

namespace Go.Proofs.YtjpbjbnialehbaaDoor
open Go.ChangeShapes Go.WideShapes Go.ChangeAt Go.RowKit
set_option linter.unusedVariables false
set_option maxRecDepth 8000
def baseL : List Int := [0, 4096, 8192, 16384, 20480, 24576, 57344, 2560, 2688, 2752, 2816, 3008, 3200, 3264, 64, 2048, 128, 256, 512, 768, 1024, 1280, 0, 34816]
def baseAt (k : Nat) : Int := baseL.getD k 0
theorem base_bd : ∀ i : Fin 24, 0 ≤ baseAt i.val ∧ baseAt i.val ≤ 57344 := by decide +kernel
def Od.six (o : Od) : Int := o.m * 8 + o.r
end Go.Proofs.YtjpbjbnialehbaaDoor

namespace Go.Proofs.YtjpbjbnialehbaaDoor
open Go.ChangeShapes Go.WideShapes Go.ChangeAt Go.RowKit
set_option linter.unusedVariables false
set_option maxRecDepth 8000
def Is.code (i : Is) : Int :=
  if i.op ≤ 6 then baseAt i.op.toNat + i.s.six * 64 + i.d.six
  else if i.op ≤ 14 then baseAt i.op.toNat + i.d.six
  else if i.op = 15 then baseAt i.op.toNat + i.n * 64 + i.d.six
  else if i.op = 16 ∨ i.op = 23 then baseAt i.op.toNat + i.n
  else if i.op ≤ 21 then baseAt i.op.toNat + i.n % 256
  else baseAt i.op.toNat
def Is.xs (i : Is) : List Int := (if i.op ≤ 6 ∧ i.s.hasX = true then [i.s.x] else []) ++ (if i.op ≤ 15 ∧ i.d.hasX = true then [i.d.x] else [])
def Is.enc (i : Is) : List Int := if i.ok = true then i.code :: i.xs else []
theorem od_ok {o : Od} (h : o.ok = true) : (0 ≤ o.m ∧ o.m ≤ 7 ∧ 0 ≤ o.r ∧ o.r ≤ 7) ∧ 0 ≤ o.x ∧ o.x ≤ 65535 ∧ (o.hasX = true ∨ o.x = 0) := by
  unfold Od.ok inB at h
  simp only [Bool.and_eq_true, Bool.or_eq_true, decide_eq_true_eq, beq_iff_eq] at h
  obtain ⟨⟨⟨⟨h1, h2⟩, h3, h4⟩, h5, h6⟩, h7⟩ := h
  exact ⟨⟨h1, h2, h3, h4⟩, h5, h6, h7⟩
theorem od_zero {o : Od} (h : o.zero = true) : o.m = 0 ∧ o.r = 0 ∧ o.x = 0 := by
  unfold Od.zero at h
  simpa using h
theorem is_ok {i : Is} (h : i.ok = true) : (1 ≤ i.op ∧ i.op ≤ 23) ∧ (i.op ≤ 6 → i.s.ok = true) ∧ (i.op ≤ 15 → i.d.ok = true) ∧ (6 < i.op → i.s.zero = true) ∧ (15 < i.op → i.d.zero = true) ∧ (-128 ≤ i.n ∧ i.n ≤ 255) ∧ ((i.op ≤ 14 ∨ i.op = 22) → i.n = 0) ∧ ((i.op = 15 ∨ i.op = 16) → 0 ≤ i.n ∧ i.n ≤ 7) ∧ (17 ≤ i.op ∧ i.op ≤ 21 → i.n ≤ 127) ∧ (i.op = 23 → 0 ≤ i.n) := by
  unfold Is.ok at h
  simp only [inB, Bool.and_eq_true, decide_eq_true_eq, beq_iff_eq, Bool.or_eq_true, Bool.not_eq_true'] at h
  split at h
  · simp only [Bool.and_eq_true, beq_iff_eq] at h
    obtain ⟨⟨h1, h2⟩, h3⟩ := h
    refine ⟨by omega, fun _ => h1, fun _ => h2, fun _ => by omega, fun _ => by omega, by omega, fun _ => h3, fun _ => by omega, fun _ => by omega, fun _ => by omega⟩
  split at h
  · simp only [Bool.and_eq_true, beq_iff_eq] at h
    obtain ⟨⟨h1, h2⟩, h3⟩ := h
    refine ⟨by omega, fun _ => by omega, fun _ => h2, fun _ => h1, fun _ => by omega, by omega, fun _ => h3, fun _ => by omega, fun _ => by omega, fun _ => by omega⟩
  split at h
  · simp only [Bool.and_eq_true, decide_eq_true_eq] at h
    obtain ⟨⟨h1, h2⟩, h3⟩ := h
    refine ⟨by omega, fun _ => by omega, fun _ => h2, fun _ => h1, fun _ => by omega, by omega, fun _ => by omega, fun _ => by omega, fun _ => by omega, fun _ => by omega⟩
  split at h
  · cases h
  rename_i hz
  have hs : i.s.zero = true := by cases e : i.s.zero <;> simp_all
  have hd : i.d.zero = true := by cases e : i.d.zero <;> simp_all
  clear hz
  split at h
  · simp only [Bool.and_eq_true, decide_eq_true_eq] at h
    refine ⟨by omega, fun _ => by omega, fun _ => by omega, fun _ => hs, fun _ => hd, by omega, fun _ => by omega, fun _ => by omega, fun _ => by omega, fun _ => by omega⟩
  split at h
  · simp only [Bool.and_eq_true, decide_eq_true_eq] at h
    refine ⟨by omega, fun _ => by omega, fun _ => by omega, fun _ => hs, fun _ => hd, by omega, fun _ => by omega, fun _ => by omega, fun _ => by omega, fun _ => by omega⟩
  split at h
  · simp only [beq_iff_eq] at h
    refine ⟨by omega, fun _ => by omega, fun _ => by omega, fun _ => hs, fun _ => hd, by omega, fun _ => by omega, fun _ => by omega, fun _ => by omega, fun _ => by omega⟩
  split at h
  · simp only [Bool.and_eq_true, decide_eq_true_eq] at h
    refine ⟨by omega, fun _ => by omega, fun _ => by omega, fun _ => hs, fun _ => hd, by omega, fun _ => by omega, fun _ => by omega, fun _ => by omega, fun _ => by omega⟩
  · cases h
theorem alloc_cell {w : World} {p : Addr} {v : Value} (h : w.cell? p = some v) (o : Obj) : (w.alloc o).cell? p = some v :=
  ((Below.refl w.heap.size w).alloc (Nat.le_refl _) o).cell (World.block_lt_of_cell? w _ h) |>.trans h
theorem box_app {B C : Nat} {W w3 w4 : World} {v : Value} {ns : List Int} (h : Below B W w3) (hz : W.heap.size = B) (o : Obj) (hg : (w3.alloc o).grownBy w4 v.ownBlock) (ho : OwnN w3 C v ns) (hC : B ≤ C) : Below B W w4 :=
  (h.alloc (by have := h.size; omega) o).grown hg (by have := h.size; simp; omega) (fun k e => Nat.le_trans hC (ho.lt e).1)
theorem own_one (w : World) (x : Int) : OwnN (w.alloc (.cells #[.int .i64 x] 3)) w.heap.size (.slice (some ⟨w.heap.size, 0, none⟩) 1 1) [x] :=
  ⟨rfl, .inr ⟨w.heap.size, 1, _, rfl, Nat.le_refl _, Array.getElem?_push_size, Nat.le_refl _, by unfold maxLen; omega, rfl, rfl⟩⟩
end Go.Proofs.YtjpbjbnialehbaaDoor

namespace Go.Proofs.YtjpbjbnialehbaaDoor
open Go.ChangeShapes Go.WideShapes Go.ChangeAt Go.RowKit
set_option linter.unusedVariables false
set_option maxRecDepth 8000
set_option linter.unusedSimpArgs false
def Wd (ns : List Int) : Prop := ∀ x ∈ ns, 0 ≤ x ∧ x ≤ 65535
theorem nAt_mem {ns : List Int} {i : Nat} (h : i < ns.length) : nAt ns i ∈ ns := by
  unfold nAt
  rw [List.getD_eq_getElem?_getD, List.getElem?_eq_getElem h]
  exact List.getElem_mem h
end Go.Proofs.YtjpbjbnialehbaaDoor

namespace Go.Proofs.YtjpbjbnialehbaaDoor
open Go.ChangeShapes Go.WideShapes Go.ChangeAt Go.RowKit
set_option linter.unusedVariables false
set_option maxRecDepth 8000
set_option linter.unusedSimpArgs false
/-- The byte at a place, or what stands for one. -/
def atV (xs : List UInt8) (i : Nat) : Int := if i < xs.length then bAt xs i else ((i : Int) * 31 + (xs.length : Int) * 7) % 256
theorem atV_bd (xs : List UInt8) (i : Nat) : 0 ≤ atV xs i ∧ atV xs i ≤ 255 := by
  unfold atV
  split
  · exact bAt_bd xs i
  · omega
set_option maxHeartbeats 400000 in
theorem at_any (a : Option Addr) (len cap i : Nat) (xs : List UInt8) (w : World) (hi : i ≤ 10) (hl : xs.length = len) (hm : len ≤ 1048576) (hr : Rd w a xs) : Calls Tryd.prog 5 #[.slice a len cap, .int .i64 (i : Int)] w fun e w' => e = .returned (.int .i64 (atV xs i)) ∧ w' = w := by
  unfold atV
  rw [hl]
  by_cases h : i < len
  · rw [if_pos h]
    rcases hr with rfl | ⟨b, off, rfl, hb, hc⟩
    · simp at hl; omega
    have hcx := hc i (by omega)
    have hbd := bAt_bd xs i
    clear hc
    go_enter Tryd.func5, Tryd.ntmps5
    go_wp2
    go_ret
    exact ⟨rfl, rfl⟩
  · rw [if_neg h]
    go_enter Tryd.func5, Tryd.ntmps5
    go_wp2
    go_ret
    exact ⟨rfl, rfl⟩
theorem big_free (a : Option Addr) (len cap : Nat) (w : World) (hm : len ≤ 9223372036854775807) : Calls Tryd.prog 4 #[.slice a len cap] w fun e w' => e = .returned (.bool (decide ((1048576 : Int) < (len : Int)))) ∧ w' = w := big_any a len cap w hm
end Go.Proofs.YtjpbjbnialehbaaDoor

namespace Go.Proofs.YtjpbjbnialehbaaDoor
open Go.ChangeShapes Go.WideShapes Go.ChangeAt Go.RowKit
set_option linter.unusedVariables false
set_option maxRecDepth 8000
set_option linter.unusedSimpArgs false
theorem Wd.set {ns : List Int} (h : Wd ns) (k : Nat) (v : Int) (h0 : 0 ≤ v) (h1 : v ≤ 65535) : Wd (ns.set k v) := fun x hx => by
  rcases List.mem_or_eq_of_mem_set hx with h' | h'
  · exact h x h'
  · omega
theorem wdB_of {ns : List Int} (h : Wd ns) : wdB ns = true := by
  unfold wdB
  rw [List.all_eq_true]
  intro x hx
  have := h x hx
  exact inB_t _ _ _ this
theorem Wd.of {ns : List Int} (h : wdB ns = true) : Wd ns := fun x hx => by
  unfold wdB at h
  rw [List.all_eq_true] at h
  exact inB_b (h x hx)
/-- A machine's lists are right. -/
structure Dk (d : Md) : Prop where
  ml : d.m.length = 256
  mw : Wd d.m
  rl : d.r.length = 8
  rw : Wd d.r
  il : d.i.length ≤ 50
  iw : Wd d.i
  ol : d.o.length ≤ 50
  ow : Wd d.o
theorem Dk.ok {d : Md} (h : Dk d) (st : Int) (h0 : 0 ≤ st) (h1 : st ≤ 2) : d.ok st = true := by
  unfold Md.ok
  rw [h.ml, h.rl, wdB_of h.mw, wdB_of h.rw, wdB_of h.iw, wdB_of h.ow, decide_eq_true (show (d.i.length : Int) ≤ 50 by have := h.il; omega), decide_eq_true (show (d.o.length : Int) ≤ 50 by have := h.ol; omega), inB_t st 0 2 ⟨h0, h1⟩]
  rfl
theorem Dk.setR {d : Md} (h : Dk d) (k : Nat) (v : Int) (h0 : 0 ≤ v) (h1 : v ≤ 65535) : Dk ⟨d.m, d.r.set k v, d.i, d.o⟩ := { h with rl := by simp [h.rl], rw := h.rw.set k v h0 h1 }
theorem Dk.small {d : Md} (h : Dk d) : d.small := ⟨by have := h.ml; omega, by have := h.rl; omega, by have := h.il; omega, by have := h.ol; omega⟩
section
variable {w wr w' : World} {cb : Nat} {a : Option Addr} {len cap : Nat} {xs : List UInt8} {y : Mv} {g5 gm gr n c : Nat} {d : Md}
end
end Go.Proofs.YtjpbjbnialehbaaDoor

namespace Go.Proofs.YtjpbjbnialehbaaDoor
open Go.ChangeShapes Go.WideShapes Go.ChangeAt Go.RowKit
set_option linter.unusedVariables false
set_option maxRecDepth 8000
set_option linter.unusedSimpArgs false
theorem Dk.regS {d : Md} (h : Dk d) (k : Nat) (v : Int) : Dk (d.reg k (v % 65536)) := h.setR k _ (by omega) (by omega)
theorem dk_plS {d : Md} (h : Dk d) (mo re : Nat) : Dk (d.plD mo re) := by
  unfold Md.plD Md.adD Md.fet
  repeat' split
  all_goals first | exact h | exact h.regS _ _
theorem Dk.r8 {d : Md} (h : Dk d) : d.R8 := ⟨h.rl, fun j hj => h.rw _ (nAt_mem (by have := h.rl; omega))⟩
theorem Dk.getb {d : Md} (h : Dk d) (a : Int) : 0 ≤ d.get a ∧ d.get a ≤ 65535 := by
  unfold Md.get
  split
  · rename_i hh
    obtain ⟨ha, hl⟩ := has_t hh
    obtain ⟨a0, _, _⟩ := adB_t ha
    exact h.mw _ (nAt_mem (by omega))
  · omega
theorem Dk.ldb {d : Md} (h : Dk d) (r a : Int) : 0 ≤ d.ldV r a ∧ d.ldV r a ≤ 65535 := by
  unfold Md.ldV
  split
  · exact h.getb a
  · split
    · rename_i h1 h2
      unfold Md.ldB at h2
      rw [if_neg h1] at h2
      simp only [Bool.and_eq_true] at h2
      obtain ⟨b3, b4⟩ := inB_b h2.1
      exact h.rw _ (nAt_mem (by omega))
    · omega
/-- A word's sign. -/
def sgB (n : Int) : Bool := decide (32768 ≤ n % 65536)
/-- What a machine holds, but for how it stands. -/
structure Ms where
  d : Md
  n : Bool
  z : Bool
  v : Bool
  c : Bool
def Ms.fl (t : Ms) (st : Int) : Bool × Bool × Bool × Bool × Int := (t.n, t.z, t.v, t.c, st)
section
variable {w w' : World} {B g : Nat} {y : Mv} {t : Ms} {st : Int}
end
/-- What a change of the machine at a pointer leaves: all but its own row and lists. -/
structure Fm (w w' : World) (g : Nat) (y y' : Mv) : Prop where
  os : w'.os = w.os
  tape : w'.tape = w.tape
  output : w'.output = w.output
  size : w.heap.size ≤ w'.heap.size
  blk : ∀ k, k < w.heap.size → k ≠ g → ¬ y.at k → w'.heap[k]? = w.heap[k]?
  new : ∀ b, y'.at b → y.at b ∨ w.heap.size ≤ b
section
variable {w w1 w2 : World} {g : Nat} {y y1 y2 : Mv}
theorem Fm.trans (h : Fm w w1 g y y1) (k : Fm w1 w2 g y1 y2) : Fm w w2 g y y2 :=
  ⟨k.os.trans h.os, k.tape.trans h.tape, k.output.trans h.output, Nat.le_trans h.size k.size,
   fun b hb hg hy => (k.blk b (Nat.lt_of_lt_of_le hb h.size) hg (fun e => (h.new b e).elim hy (fun l => by omega))).trans (h.blk b hb hg hy),
   fun b hb => (k.new b hb).elim (fun e => h.new b e) (fun l => .inr (Nat.le_trans h.size l))⟩
theorem Fm.of (h : Below w.heap.size w w1) : Fm w w1 g y y := ⟨h.os, h.tape, h.output, h.size, fun k hk _ _ => h.block k hk, fun b hb => .inl hb⟩
theorem Fm.grown {b : Nat} (h : w.grownBy w1 (some b)) (hb : b = g ∨ y.at b) (ha : ∀ k, y1.at k → y.at k) : Fm w w1 g y y1 :=
  ⟨h.os, h.tape, h.output, h.size, fun k hk hg hy => h.block k hk (fun e => by cases e; exact hb.elim hg hy), fun k hk => .inl (ha k hk)⟩
theorem Fm.row {k : Nat} {o : Obj} (h : Fm w w1 g y y1) (hr : w.heap[k]? = some o) (hg : k ≠ g) (hy : ¬ y.at k) : w1.heap[k]? = some o := (h.blk k (row_lt hr) hg hy).trans hr
theorem Fm.bel {B : Nat} (h : Fm w w1 g y y1) (hB : B ≤ w.heap.size) (hg : B ≤ g) (hy : ∀ b, y.at b → B ≤ b) : Below B w w1 :=
  ⟨h.os, h.tape, h.output, h.size, fun k hk => h.blk k (by omega) (by omega) (fun e => by have := hy k e; omega)⟩
end
def Ms.nz (t : Ms) (r : Int) (v : Bool) : Ms := { t with n := sgB r, z := (r % 65536 == 0), v := v }
end Go.Proofs.YtjpbjbnialehbaaDoor
