/- A new machine, by the model, where it can be made; over this seat's translation; conditions stand as hypotheses of each. -/
import Derived.Test.YtfkmibgamkignaaMacR
namespace Go.Proofs.Ytfkmibgamkignaa
open Go.ChangeShapes Go.WideShapes Go.ChangeAt Go.RowKit
set_option linter.unusedVariables false
set_option maxRecDepth 8000
set_option linter.unusedSimpArgs false

/-- What has come up, by what waits for what. -/
structure Dp (f : Nat → Bool) : Prop where
  d4 : f 4 = true → f 2 = true ∧ f 3 = true
  d5 : f 5 = true → f 0 = true ∧ f 1 = true ∧ f 4 = true
  d7 : f 7 = true → f 0 = true ∧ f 1 = true ∧ f 2 = true ∧ f 3 = true ∧ f 4 = true ∧ f 5 = true ∧ f 6 = true
theorem no {p : Prop} (h : false = true) : p := by cases h
theorem dp_new : Dp (fun _ => false) := ⟨fun h => no h, fun h => no h, fun h => no h⟩
theorem f_no {b c : Bool} (h : b = true → c = true) (hc : c = false) : b = false := by
  cases hb : b
  · rfl
  · rw [h hb] at hc; cases hc
theorem built28 (s0 s1 s2 : Sl) : Try.prog.built 28 [(0, s0.v), (1, s1.v), (6, s2.v)] = some #[s0.v, s1.v, .bool false, .bool false, .bool false, .bool false, s2.v, .slice none 0 0, .int .i64 0] := by kernel_rfl
theorem wp_build28 {o : Oper} {a : Act} {w : World} {K : Act → World → Prop} {Q : Exit → Act → World → Prop} (x0 x1 x2 : Operand) (ho : o.op = .build 28 #[(0, x0), (1, x1), (6, x2)]) (s0 s1 s2 : Sl) (h0 : a.eval x0 = s0.v) (h1 : a.eval x1 = s1.v) (h2 : a.eval x2 = s2.v)
    (h : K (a.put o.dst (.agg #[s0.v, s1.v, .bool false, .bool false, .bool false, .bool false, s2.v, .slice none 0 0, .int .i64 0])) w) : o.wp Try.prog a w K Q := by
  have e : Try.prog.built 28 ((#[(0, x0), (1, x1), (6, x2)] : Array (Nat × Operand)).map fun (i, x) => (i, a.eval x)).toList = some #[s0.v, s1.v, .bool false, .bool false, .bool false, .bool false, s2.v, .slice none 0 0, .int .i64 0] := by
    simp only [List.map_toArray, List.map_cons, List.map_nil, h0, h1, h2]
    exact built28 s0 s1 s2
  refine wp_build 28 _ ho (by rw [e]; rfl) ?_
  rw [e]
  exact h
theorem over_nil (ns : List Int) (k : Nat) : over ns k [] = ns := by simp [over]
theorem over_len (ns im : List Int) (k : Nat) (h : k + im.length ≤ ns.length) : (over ns k im).length = ns.length := by
  unfold over
  simp only [List.length_append, List.length_take, List.length_drop]
  omega
theorem over_set (ns im : List Int) (k j : Nat) (hj : j < im.length) (h : k + im.length ≤ ns.length) : (over ns k (im.take j)).set (k + j) (nAt im j) = over ns k (im.take (j + 1)) := by
  have e1 : (im.take j).length = j := by rw [List.length_take]; omega
  have e2 : (im.take (j + 1)).length = j + 1 := by rw [List.length_take]; omega
  have e3 : (ns.take k).length = k := by rw [List.length_take]; omega
  unfold over
  rw [e1, e2, take_nAt im j hj]
  have e4 : ns.drop (k + j) = ns[k + j]'(by omega) :: ns.drop (k + (j + 1)) := List.drop_eq_getElem_cons (by omega)
  rw [e4, List.set_append_right _ _ (by omega), e3, List.set_append_right _ _ (by omega), e1, show k + j - k - j = 0 by omega, List.set_cons_zero, List.append_assoc]
  rfl
/-- While the image is laid into a new machine. -/
structure Nl (w wr : World) (y : Mv) (g9 : Nat) (d : Md) : Prop where
  bel : Below (w.heap.size + 1) (w.alloc (.cells zMv.cs 28)) wr
  r9 : wr.heap[g9]? = some (.cells y.cs 28 (0, 0))
  own : OwnM wr (w.heap.size + 1) y d
theorem Nl.low {w wr : World} {y : Mv} {g9 : Nat} {d : Md} (h : Nl w wr y g9 d) : Below w.heap.size w wr := (below_new w (.cells zMv.cs 28)).trans (h.bel.mono (by omega))
theorem Nl.re {w wr : World} {y : Mv} {g9 : Nat} {d : Md} (h : Nl w wr y g9 d) : wr.heap[w.heap.size]? = some (.cells zMv.cs 28 (0, 0)) := (h.bel.block w.heap.size (by omega)).trans (heap_alloc_last w _)
theorem Nl.later {w wr w' : World} {y : Mv} {g9 : Nat} {d : Md} (h : Nl w wr y g9 d) (hb : Below wr.heap.size wr w') : Nl w w' y g9 d :=
  ⟨h.bel.trans (hb.mono (by have := h.bel.size; have := alloc_size w (.cells zMv.cs 28); omega)), row_lat h.r9 hb, h.own.later hb⟩
theorem Nl.setM {w wr : World} {y : Mv} {g9 gm n c : Nat} {d : Md} (h : Nl w wr y g9 d) (hm : y.m = ⟨some ⟨gm, 0, none⟩, n, c⟩) (hne : ∀ b, y.at b → b ≠ g9) (k : Nat) (v : Int) (hk : k < d.m.length) : Nl w (wr.setCell ⟨gm, k, none⟩ (.int .i64 v)) y g9 ⟨d.m.set k v, d.r, d.i, d.o⟩ := by
  have e : y.m.v = .slice (some ⟨gm, 0, none⟩) n c := by rw [hm]; rfl
  have o := h.own.m
  rw [e] at o
  have s := o.set k v hk
  have hat : y.at gm := .inl (by rw [e]; rfl)
  have := h.own.lo hat
  exact ⟨h.bel.setCell (p := ⟨gm, k, none⟩) this.1 _, row_keep h.r9 (fun e => hne gm hat e.symm), h.own.putM (by rw [e]; exact s.2) (by rw [e]; exact s.1)⟩
theorem OwnM.putR {w w' : World} {B : Nat} {x : Mv} {d : Md} {ns : List Int} (h : OwnM w B x d) (hg : w.grownBy w' x.r.v.ownBlock) (hn : OwnN w' B x.r.v ns) : OwnM w' B x ⟨d.m, ns, d.i, d.o⟩ :=
  { h with
    r := hn
    m := h.m.keep fun q hv hq => hg.block q hq (fun e => h.mr q hv e.symm)
    i := h.i.keep fun q hv hq => hg.block q hq (fun e => h.ri q e.symm hv)
    o := h.o.keep fun q hv hq => hg.block q hq (fun e => h.ro q e.symm hv) }
theorem Nl.setR {w wr : World} {y : Mv} {g9 gr n c : Nat} {d : Md} (h : Nl w wr y g9 d) (hm : y.r = ⟨some ⟨gr, 0, none⟩, n, c⟩) (hne : ∀ b, y.at b → b ≠ g9) (k : Nat) (v : Int) (hk : k < d.r.length) : Nl w (wr.setCell ⟨gr, k, none⟩ (.int .i64 v)) y g9 ⟨d.m, d.r.set k v, d.i, d.o⟩ := by
  have e : y.r.v = .slice (some ⟨gr, 0, none⟩) n c := by rw [hm]; rfl
  have o := h.own.r
  rw [e] at o
  have s := o.set k v hk
  have hat : y.at gr := .inr (.inl (by rw [e]; rfl))
  have := h.own.lo hat
  exact ⟨h.bel.setCell (p := ⟨gr, k, none⟩) this.1 _, row_keep h.r9 (fun e => hne gr hat e.symm), h.own.putR (by rw [e]; exact s.2) (by rw [e]; exact s.1)⟩
theorem Nl.cellM {w wr : World} {y : Mv} {g9 gm n c : Nat} {d : Md} (h : Nl w wr y g9 d) (hm : y.m = ⟨some ⟨gm, 0, none⟩, n, c⟩) (k : Nat) (hk : k < d.m.length) : wr.cell? ⟨gm, k, none⟩ = some (.int .i64 (nAt d.m k)) ∧ wr.frozen? ⟨gm, k, none⟩ = false := by
  have o := h.own.m
  rw [hm] at o
  exact OwnN.cellAt (b := gm) (n := n) (cap := c) o k hk
theorem Nl.cellR {w wr : World} {y : Mv} {g9 gr n c : Nat} {d : Md} (h : Nl w wr y g9 d) (hm : y.r = ⟨some ⟨gr, 0, none⟩, n, c⟩) (k : Nat) (hk : k < d.r.length) : wr.cell? ⟨gr, k, none⟩ = some (.int .i64 (nAt d.r k)) ∧ wr.frozen? ⟨gr, k, none⟩ = false := by
  have o := h.own.r
  rw [hm] at o
  exact OwnN.cellAt (b := gr) (n := n) (cap := c) o k hk
def Ji (w : World) (ins : Sl) (nn : List Int) (w' : World) (f : Nat → Bool) (v9 v48 v49 v50 v51 v52 v53 : Value) : Prop :=
  Dp f ∧ (f 7 = false → Ir w ins nn w' (f 0) (f 1) (f 2) (f 3) (f 4) (f 5) (f 6) (f 7) v9 v48 v49 v50 v51 v52 v53) ∧ (f 7 = true → ∃ (g9 : Nat) (y : Mv), Ie w w' nn v9 g9 y)
section
variable {w w' : World} {ins : Sl} {nn : List Int} {f : Nat → Bool} {v9 v48 v49 v50 v51 v52 v53 : Value}
theorem ji_new (h : Below (w.heap.size + 1) (w.alloc (.cells zMv.cs 28)) w') : Ji w ins nn w' (fun _ => false) v9 v48 v49 v50 v51 v52 v53 :=
  ⟨dp_new, fun _ => ⟨h, fun h => no h, fun h => no h, fun h => no h, fun h => no h, fun h => no h, fun h => no h, fun h => no h, fun h => no h, fun h => no h⟩, fun h => no h⟩
theorem Ji.op0 (J : Ji w ins nn w' f v9 v48 v49 v50 v51 v52 v53) (hf : f 0 = false) : Ji w ins nn (w'.alloc (.cells (zA 256) 3)) (fun j => if j = 0 then true else f j) v9 (.slice (some ⟨w'.heap.size, 0, none⟩) 256 256) v49 v50 v51 v52 v53 := by
  have f5 := f_no (fun h => (J.1.d5 h).1) hf
  have f7 := f_no (fun h => (J.1.d7 h).1) hf
  have i := J.2.1 f7
  rw [f5, f7] at i
  refine ⟨⟨J.1.d4, fun h => ⟨rfl, (J.1.d5 h).2⟩, fun h => ⟨rfl, (J.1.d7 h).2⟩⟩, fun _ => ?_, fun h => no (f7.symm.trans h)⟩
  have k := i.op0
  show Ir w ins nn _ true (f 1) (f 2) (f 3) (f 4) (f 5) (f 6) (f 7) _ _ _ _ _ _ _
  rw [f5, f7]
  exact k
theorem Ji.op1 (J : Ji w ins nn w' f v9 v48 v49 v50 v51 v52 v53) (hf : f 1 = false) : Ji w ins nn (w'.alloc (.cells (zA 8) 3)) (fun j => if j = 1 then true else f j) v9 v48 (.slice (some ⟨w'.heap.size, 0, none⟩) 8 8) v50 v51 v52 v53 := by
  have f5 := f_no (fun h => (J.1.d5 h).2.1) hf
  have f7 := f_no (fun h => (J.1.d7 h).2.1) hf
  have i := J.2.1 f7
  rw [f5, f7] at i
  refine ⟨⟨J.1.d4, fun h => ⟨(J.1.d5 h).1, rfl, (J.1.d5 h).2.2⟩, fun h => ⟨(J.1.d7 h).1, rfl, (J.1.d7 h).2.2⟩⟩, fun _ => ?_, fun h => no (f7.symm.trans h)⟩
  have k := i.op1
  show Ir w ins nn _ (f 0) true (f 2) (f 3) (f 4) (f 5) (f 6) (f 7) _ _ _ _ _ _ _
  rw [f5, f7]
  exact k
theorem Ji.op2 (J : Ji w ins nn w' f v9 v48 v49 v50 v51 v52 v53) (hf : f 2 = false) : Ji w ins nn (w'.alloc (.cells #[] 3)) (fun j => if j = 2 then true else f j) v9 v48 v49 (.slice (some ⟨w'.heap.size, 0, none⟩) 0 0) v51 v52 v53 := by
  have f4 := f_no (fun h => (J.1.d4 h).1) hf
  have f5 := f_no (fun h => (J.1.d5 h).2.2) f4
  have f7 := f_no (fun h => (J.1.d7 h).2.2.1) hf
  have i := J.2.1 f7
  rw [f4, f5, f7] at i
  refine ⟨⟨fun h => ⟨rfl, (J.1.d4 h).2⟩, J.1.d5, fun h => ⟨(J.1.d7 h).1, (J.1.d7 h).2.1, rfl, (J.1.d7 h).2.2.2⟩⟩, fun _ => ?_, fun h => no (f7.symm.trans h)⟩
  have k := i.op2
  show Ir w ins nn _ (f 0) (f 1) true (f 3) (f 4) (f 5) (f 6) (f 7) _ _ _ _ _ _ _
  rw [f4, f5, f7]
  exact k
theorem Ji.op3 (J : Ji w ins nn w' f v9 v48 v49 v50 v51 v52 v53) (hf : f 3 = false) : Ji w ins nn w' (fun j => if j = 3 then true else f j) v9 v48 v49 v50 (.slice ins.a ins.n ins.c) v52 v53 := by
  have f4 := f_no (fun h => (J.1.d4 h).2) hf
  have f7 := f_no (fun h => (J.1.d7 h).2.2.2.1) hf
  have i := J.2.1 f7
  rw [f4] at i
  refine ⟨⟨fun h => ⟨(J.1.d4 h).1, rfl⟩, J.1.d5, fun h => ⟨(J.1.d7 h).1, (J.1.d7 h).2.1, (J.1.d7 h).2.2.1, rfl, (J.1.d7 h).2.2.2.2⟩⟩, fun _ => ?_, fun h => no (f7.symm.trans h)⟩
  have k := i.op3
  show Ir w ins nn _ (f 0) (f 1) (f 2) true (f 4) (f 5) (f 6) (f 7) _ _ _ _ _ _ _
  rw [f4]
  exact k
theorem Ji.at4 (J : Ji w ins nn w' f v9 v48 v49 v50 v51 v52 v53) (hf : f 4 = false) (h2 : f 2 = true) (h3 : f 3 = true) : v51 = .slice ins.a ins.n ins.c ∧ w.heap.size + 1 ≤ w'.heap.size ∧ Below w.heap.size w w' ∧ ∃ g, v50 = .slice (some ⟨g, 0, none⟩) 0 0 ∧ OwnN w' (w.heap.size + 1) v50 [] ∧
    ∀ (v : Value) (w2 : World), OwnN w2 (w.heap.size + 1) v nn → w'.grownBy w2 (some g) → (v.ownBlock = some g ∨ v.ownBlock = some w'.heap.size) → Ji w ins nn w2 (fun j => if j = 4 then true else f j) v9 v48 v49 v50 v51 v v53 := by
  have f5 := f_no (fun h => (J.1.d5 h).2.2) hf
  have f7 := f_no (fun h => (J.1.d7 h).2.2.2.2.1) hf
  have i := J.2.1 f7
  rw [hf, f5, f7, h2, h3] at i
  obtain ⟨g, e, l, r⟩ := i.h2 rfl rfl
  refine ⟨i.h3 rfl, i.size, i.low, g, e, by rw [e]; exact own_bare r (by omega), fun v w2 ho hg hb => ?_⟩
  refine ⟨⟨fun _ => ⟨h2, h3⟩, fun h => ⟨(J.1.d5 h).1, (J.1.d5 h).2.1, rfl⟩, fun h => no (f7.symm.trans h)⟩, fun _ => ?_, fun h => no (f7.symm.trans h)⟩
  obtain ⟨a, c, ev, _⟩ := ho.rd
  have ev' : v = (Sl.mk a nn.length c).v := ev
  rw [ev'] at ho hb
  have k := i.op4 e l r ho hg hb
  show Ir w ins nn _ (f 0) (f 1) (f 2) (f 3) true (f 5) (f 6) (f 7) _ _ _ _ _ _ _
  rw [f5, f7, h2, h3, ev']
  exact k
theorem Ji.op5 (J : Ji w ins nn w' f v9 v48 v49 v50 v51 v52 v53) (hf : f 5 = false) (h0 : f 0 = true) (h1 : f 1 = true) (h4 : f 4 = true) : Ji w ins nn w' (fun j => if j = 5 then true else f j) v9 v48 v49 v50 v51 v52 (.agg #[v48, v49, .bool false, .bool false, .bool false, .bool false, v52, .slice none 0 0, .int .i64 0]) := by
  have f7 := f_no (fun h => (J.1.d7 h).2.2.2.2.2.1) hf
  have i := J.2.1 f7
  refine ⟨⟨J.1.d4, fun _ => ⟨h0, h1, h4⟩, fun h => no (f7.symm.trans h)⟩, fun _ => i.op5, fun h => no (f7.symm.trans h)⟩
theorem Ji.at5 (J : Ji w ins nn w' f v9 v48 v49 v50 v51 v52 v53) (hf : f 5 = false) (h0 : f 0 = true) (h1 : f 1 = true) (h4 : f 4 = true) : ∃ s0 s1 s2 : Sl, v48 = s0.v ∧ v49 = s1.v ∧ v52 = s2.v := by
  have f7 := f_no (fun h => (J.1.d7 h).2.2.2.2.2.1) hf
  have i := J.2.1 f7
  obtain ⟨g, e, _⟩ := i.h0 h0
  obtain ⟨g', e', _⟩ := i.h1 h1
  obtain ⟨s, e'', _⟩ := i.h4 h4
  exact ⟨⟨_, _, _⟩, ⟨_, _, _⟩, s, e, e', e''⟩
theorem Ji.op6 (J : Ji w ins nn w' f v9 v48 v49 v50 v51 v52 v53) (hf : f 6 = false) : Ji w ins nn (w'.alloc (.cells zMv.cs 28)) (fun j => if j = 6 then true else f j) (.pointer (some ⟨w'.heap.size, 0, none⟩)) v48 v49 v50 v51 v52 v53 := by
  have f7 := f_no (fun h => (J.1.d7 h).2.2.2.2.2.2) hf
  have i := J.2.1 f7
  rw [f7] at i
  refine ⟨⟨J.1.d4, J.1.d5, fun h => no (f7.symm.trans h)⟩, fun _ => ?_, fun h => no (f7.symm.trans h)⟩
  have k := i.op6
  show Ir w ins nn _ (f 0) (f 1) (f 2) (f 3) (f 4) (f 5) true (f 7) _ _ _ _ _ _ _
  rw [f7]
  exact k
theorem Ji.at7 (J : Ji w ins nn w' f v9 v48 v49 v50 v51 v52 v53) (hf : f 7 = false) (h5 : f 5 = true) (h6 : f 6 = true) : ∃ (g9 : Nat) (y : Mv), v9 = .pointer (some ⟨g9, 0, none⟩) ∧ v53 = .agg y.cs ∧ w'.heap[g9]? = some (.cells zMv.cs 28 (0, 0)) ∧ Ji w ins nn (w'.setRow g9 y.cs) (fun j => if j = 7 then true else f j) v9 v48 v49 v50 v51 v52 v53 := by
  obtain ⟨h0, h1, h4⟩ := J.1.d5 h5
  obtain ⟨h2, h3⟩ := J.1.d4 h4
  have i := J.2.1 hf
  rw [h0, h1, h2, h3, h4, h5, h6, hf] at i
  obtain ⟨g9, y, e1, e2, r, k⟩ := i.op7
  exact ⟨g9, y, e1, e2, r, ⟨J.1.d4, J.1.d5, fun _ => ⟨h0, h1, h2, h3, h4, h5, h6⟩⟩, fun h => no h.symm, fun _ => ⟨g9, y, k⟩⟩
end

set_option maxHeartbeats 4000000 in
theorem newS_yes (im ins : Sl) (ni nn : List Int) (a st : Int) (w : World) (hi : RdN w im.a ni) (hn : RdN w ins.a nn) (li : ni.length = im.n) (ln : nn.length = ins.n) (nz : ins.nz) (hb : newB ni a st nn = true) :
    Calls Try.prog 19 #[.slice im.a im.n im.c, .int .i64 a, .int .i64 st, .slice ins.a ins.n ins.c] w fun e w' => ∃ y : Mv, e = .returned (.agg y.cs) ∧ y.fl = zMv.fl ∧ OwnM w' (w.heap.size + 1) y ⟨over z256 (a / 2).toNat ni, newR st, nn, []⟩ ∧ Below w.heap.size w w' := by
  obtain ⟨p0, p1, p2, p3, p4, p5, p6⟩ := newB_parts hb
  have HB := hide (below_new w (.cells #[Value.slice none 0 0, Value.slice none 0 0, Value.bool false, Value.bool false, Value.bool false, Value.bool false, Value.slice none 0 0, Value.slice none 0 0, Value.int .i64 0] 28))
  obtain ⟨a0, a1⟩ := inB_b p0
  have W0 := hide (p3 ▸ wordsS_any im.a im.n im.c ni _ li (by omega) (hi.later (unhide HB)))
  have W1 := hide (p6 ▸ wordsS_any ins.a ins.n ins.c nn _ ln (by omega) (hn.later (unhide HB)))
  have I0 := hide (fun w => p0 ▸ in_any a 0 510 w)
  have I1 := hide (fun w => p4 ▸ in_any st 0 65535 w)
  have HI := hide hi
  have HN := hide hn
  have LI := hide li
  have LN := hide ln
  rw [li] at p2
  rw [ln] at p5
  have g0 : 0 ≤ a % 2 := by omega
  have g1 : a % 2 ≤ 0 := by omega
  have NZ := hide nz
  clear hi hn li ln p0 p1 p3 p4 p6 hb nz
  go_enter Try.func19, Try.ntmps19
  go_wp2_with (first | (go_at_call_of 59 (Value.int IntKind.i64 a); refine (unhide I0 _).mono ?_; rintro e w' ⟨rfl, rfl⟩) | (go_at_call_of 59 (Value.int IntKind.i64 st); refine (unhide I1 _).mono ?_; rintro e w' ⟨rfl, rfl⟩) | (go_at_call_of 60 (Value.slice im.a im.n im.c); refine (unhide W0).mono ?_; rintro e w' ⟨rfl, rfl⟩) | (go_at_call_of 60 (Value.slice ins.a ins.n ins.c); refine (unhide W1).mono ?_; rintro e w' ⟨rfl, rfl⟩))
  refine wp_region_inv (fun f a' w' => ∃ v9 v48 v49 v50 v51 v52 v53 : Value, a' = ⟨#[_, _, _, _, _, _, _, _, _, v9, _, _, _, _, _, _, _, _, _, _, _, _, _, _, _, _, _, _, _, _, _, _, _, _, _, _, _, _, _, _, _, _, _, _, _, _, _, _, v48, v49, v50, v51, v52, v53, _, _, _, _, _, _, _, _, _, _, _, _, _, _, _, _, _, _, _, _, _, _, _, _, _], []⟩ ∧ Ji w ins nn w' f v9 v48 v49 v50 v51 v52 v53) (by kernel_rfl) ⟨undef, undef, undef, undef, undef, undef, undef, rfl, ji_new ⟨rfl, rfl, rfl, Nat.le_refl _, fun _ _ => rfl⟩⟩ (by kernel_rfl) ?_ ?_
  · intro i o ho f a' w' hI hf hd K2 hK2
    obtain ⟨v9, v48, v49, v50, v51, v52, v53, rfl, J⟩ := hI
    have hi8 : i < 8 := by have := (Array.getElem?_eq_some_iff.1 ho).1; simpa using this
    obtain rfl | rfl | rfl | rfl | rfl | rfl | rfl | rfl : i = 0 ∨ i = 1 ∨ i = 2 ∨ i = 3 ∨ i = 4 ∨ i = 5 ∨ i = 6 ∨ i = 7 := by omega
    · obtain rfl := Option.some.inj ho
      rw [if_pos (by rfl)]
      refine wp_make 256 made256 (by omega) rfl ?_
      exact hK2 _ _ ⟨v9, _, v49, v50, v51, v52, v53, rfl, J.op0 hf⟩
    · obtain rfl := Option.some.inj ho
      rw [if_pos (by rfl)]
      refine wp_make 8 made8 (by omega) rfl ?_
      exact hK2 _ _ ⟨v9, v48, _, v50, v51, v52, v53, rfl, J.op1 hf⟩
    · obtain rfl := Option.some.inj ho
      rw [if_pos (by rfl)]
      refine wp_empty rfl ?_
      exact hK2 _ _ ⟨v9, v48, v49, _, v51, v52, v53, rfl, J.op2 hf⟩
    · obtain rfl := Option.some.inj ho
      rw [if_pos (by rfl)]
      refine wp_move _ rfl ?_
      exact hK2 _ _ ⟨v9, v48, v49, v50, _, v52, v53, rfl, J.op3 hf⟩
    · obtain rfl := Option.some.inj ho
      rw [if_pos (by rfl)]
      obtain ⟨e51, z1, bl, g, e50, ow, step⟩ := J.at4 hf (hd ⟨2, .data⟩ (by simp) rfl) (hd ⟨3, .data⟩ (by simp) rfl)
      refine wp_app _ _ rfl (w.heap.size + 1) v50 [] rfl ow ins nn e51 ((unhide HN).later bl) (unhide LN) (unhide NZ) (by simp; omega) z1 ?_
      intro v' w2 o1 o2 o3
      rw [e50] at o2 o3
      exact hK2 _ _ ⟨v9, v48, v49, v50, v51, _, v53, rfl, step v' w2 o1 o2 o3⟩
    · obtain rfl := Option.some.inj ho
      rw [if_pos (by rfl)]
      obtain ⟨s0, s1, s2, e0, e1, e2⟩ := J.at5 hf (hd ⟨0, .data⟩ (by simp) rfl) (hd ⟨1, .data⟩ (by simp) rfl) (hd ⟨4, .data⟩ (by simp) rfl)
      refine wp_build28 _ _ _ rfl s0 s1 s2 e0 e1 e2 ?_
      have J5 := J.op5 hf (hd ⟨0, .data⟩ (by simp) rfl) (hd ⟨1, .data⟩ (by simp) rfl) (hd ⟨4, .data⟩ (by simp) rfl)
      rw [← e0, ← e1, ← e2]
      exact hK2 _ _ ⟨v9, v48, v49, v50, v51, v52, _, rfl, J5⟩
    · obtain rfl := Option.some.inj ho
      rw [if_pos (by rfl)]
      refine wp_alloc28 rfl ?_
      exact hK2 _ _ ⟨_, v48, v49, v50, v51, v52, v53, rfl, J.op6 hf⟩
    · obtain rfl := Option.some.inj ho
      rw [if_pos (by rfl)]
      obtain ⟨g9, y, e9, e53, r9, k⟩ := J.at7 hf (hd ⟨5, .data⟩ (by simp) rfl) (hd ⟨6, .data⟩ (by simp) rfl)
      refine wp_store_row 28 _ _ rfl g9 y.cs e9 e53 28 zMv.cs r9 (by kernel_rfl) rfl (Mv.cs_one _) ?_
      exact hK2 _ _ ⟨v9, v48, v49, v50, v51, v52, v53, rfl, k⟩
  · intro f a' w' hI hall
    obtain ⟨v9, v48, v49, v50, v51, v52, v53, rfl, J⟩ := hI
    obtain ⟨g9, y, E⟩ := J.2.2 (hall 7 (by simp))
    obtain ⟨gm, hgm⟩ := E.ym
    obtain ⟨gr, hgr⟩ := E.yr
    obtain ⟨k, hk⟩ := Int.eq_ofNat_of_zero_le (show 0 ≤ a / 2 by omega)
    have N0 := hide (show Nl w w' y g9 ⟨over z256 k (ni.take 0), List.replicate 8 0, nn, []⟩ from ⟨E.bel, E.r9, by rw [List.take_zero, over_nil]; exact E.own⟩)
    have e9 := E.p9
    subst e9
    have NE := hide E.ne
    have FL := hide E.fl
    have L9 := hide E.l9
    have GM := hide hgm
    have GR := hide hgr
    have HK := hide hk
    have QU := hide (quo2 a0 (by omega) hk)
    have kb : k + im.n ≤ 256 := by omega
    clear E J hall hgm hgr hk W0 W1 I0 I1 HB
    go_wp2
    go_loopw [10] (fun i wr => ∃ j : Nat, j ≤ im.n ∧ i = .int .i64 j ∧ Nl w wr y g9 ⟨over z256 k (ni.take j), List.replicate 8 0, nn, []⟩) (fun i _ => im.n - (intOf i).toNat)
    case atStart => exact ⟨0, Nat.zero_le _, rfl, unhide N0⟩
    case round =>
      obtain ⟨j, hj, rfl, hN⟩ := hrel
      have NR := hide hN
      clear hN N0
      by_cases hlt : j < im.n
      · have LI' := unhide LI
        rcases (unhide HI).later (unhide NR).low with h0 | ⟨b, off, hia, hbl, hcl⟩
        · rw [h0] at LI'; simp at LI'; omega
        have hb0 : b < w.heap.size := by
          rcases (unhide HI) with h0 | ⟨b', off', e', hb', _⟩
          · rw [h0] at LI'; simp at LI'; omega
          · rw [hia] at e'; cases e'; exact hb'
        have HIA := hide hia
        have C9 := hide (show wr.cell? ⟨g9, 0, none⟩ = some (.slice (some ⟨gm, 0, none⟩) 256 256) by rw [row_m (unhide NR).r9, unhide GM])
        have CI := hide (hcl j (by omega))
        have hlen : (over z256 k (ni.take j)).length = 256 := by rw [over_len _ _ _ (by rw [z256_len, List.length_take]; omega), z256_len]
        have CM := hide ((unhide NR).cellM (unhide GM) (k + j) (by show k + j < (over z256 k (ni.take j)).length; omega))
        have nd := ((unhide NR).later (below_drew (w := wr))).setM (unhide GM) (unhide NE) (k + j) (nAt ni j) (by show k + j < (over z256 k (ni.take j)).length; omega)
        have nd2 : Nl w (wr.drew.setCell ⟨gm, k + j, none⟩ (.int .i64 (nAt ni j))) y g9 ⟨over z256 k (ni.take (j + 1)), List.replicate 8 0, nn, []⟩ := by
          rw [← over_set z256 ni k j (by omega) (by rw [z256_len]; omega)]
          exact nd
        have ND := hide nd2
        have hadd : Hid (IntKind.i64.wrap ((k : Int) + (j : Int)) = (k : Int) + (j : Int)) := hide (by rw [IntKind.wrap_i64]; omega)
        have htn : Hid (((k : Int) + (j : Int)).toNat = k + j) := hide (by omega)
        have S2 := hide (show (wr.drew.setCell ⟨gm, k + j, none⟩ (.int .i64 (nAt ni j))).cell? ⟨b, off + j, none⟩ = some (.int .i64 (nAt ni j)) by
          have hat : y.at gm := .inl (by rw [unhide GM]; rfl)
          have := ((unhide NR).own.lo hat).1
          rw [World.cell?_of_block (w := wr.drew) (Below.heap_setCell wr.drew ⟨gm, k + j, none⟩ _ b (by show b ≠ gm; omega))]
          exact unhide CI)
        clear hcl nd nd2 hbl hia
        generalize nAt ni j = q at CI ND S2 ⊢
        go_wp2_with fail
        refine wp_region_held_drew (S := fun w' => w'.cell? ⟨g9, 0, none⟩ = some (.slice (some ⟨gm, 0, none⟩) 256 256) ∧ w'.cell? ⟨b, off + j, none⟩ = some (.int .i64 q)) (by kernel_rfl) ⟨unhide C9, unhide CI⟩ (fun hS => ?_)
        have HS := hide hS
        clear hS
        refine wpAnyH_take (i := 0) (v := .pointer (some ⟨g9, 0, none⟩)) rfl (by kernel_rfl) (by kernel_rfl) (by kernel_rfl) (fun _ _ _ h => h) (Or.inl ⟨by rfl, fun w hc => ?_⟩) (unhide HS) ?_
        · clear hc; go_simp
        go_simp
        refine wpAnyH_take (i := 1) (v := .slice (some ⟨gm, 0, none⟩) 256 256) rfl (by kernel_rfl) (by kernel_rfl) (by kernel_rfl) (fun _ _ _ h => h) (Or.inl ⟨by rfl, fun w hc => ?_⟩) (unhide HS) ?_
        · obtain ⟨hc1, hc2⟩ := hc; go_simp
        go_simp
        refine wpAnyH_take (i := 2) (v := .int .i64 a) rfl (by kernel_rfl) (by kernel_rfl) (by kernel_rfl) (fun _ _ _ h => h) (Or.inl ⟨by rfl, fun w hc => ?_⟩) (unhide HS) ?_
        · clear hc; go_simp
        go_simp
        refine wpAnyH_take (i := 3) (v := .int .i64 (k : Int)) rfl (by kernel_rfl) (by kernel_rfl) (by kernel_rfl) (fun _ _ _ h => h) (Or.inl ⟨by rfl, fun w hc => ?_⟩) (unhide HS) ?_
        · clear hc; have hq := unhide QU; go_simp
        go_simp
        refine wpAnyH_take (i := 4) (v := .int .i64 (j : Int)) rfl (by kernel_rfl) (by kernel_rfl) (by kernel_rfl) (fun _ _ _ h => h) (Or.inl ⟨by rfl, fun w hc => ?_⟩) (unhide HS) ?_
        · clear hc; go_simp
        go_simp
        refine wpAnyH_take (i := 5) (v := .int .i64 ((k : Int) + (j : Int))) rfl (by kernel_rfl) (by kernel_rfl) (by kernel_rfl) (fun _ _ _ h => h) (Or.inl ⟨by rfl, fun w hc => ?_⟩) (unhide HS) ?_
        · clear hc; have hq := unhide hadd; go_simp
        go_simp
        refine wpAnyH_take (i := 6) (v := .slice im.a im.n im.c) rfl (by kernel_rfl) (by kernel_rfl) (by kernel_rfl) (fun _ _ _ h => h) (Or.inl ⟨by rfl, fun w hc => ?_⟩) (unhide HS) ?_
        · clear hc; go_simp
        go_simp
        refine wpAnyH_take (i := 7) (v := .int .i64 (j : Int)) rfl (by kernel_rfl) (by kernel_rfl) (by kernel_rfl) (fun _ _ _ h => h) (Or.inl ⟨by rfl, fun w hc => ?_⟩) (unhide HS) ?_
        · clear hc; go_simp
        go_simp
        refine wpAnyH_take (i := 8) (v := .pointer (some ⟨b, off + j, none⟩)) rfl (by kernel_rfl) (by kernel_rfl) (by kernel_rfl) (fun _ _ _ h => h) (Or.inl ⟨by rfl, fun w hc => ?_⟩) (unhide HS) ?_
        · clear hc; have hq := unhide HIA; go_simp
        go_simp
        refine wpAnyH_take (i := 9) (v := .int .i64 q) rfl (by kernel_rfl) (by kernel_rfl) (by kernel_rfl) (fun _ _ _ h => h) (Or.inl ⟨by rfl, fun w hc => ?_⟩) (unhide HS) ?_
        · obtain ⟨hc1, hc2⟩ := hc; go_simp
        go_simp
        refine wpAnyH_take (i := 10) (v := .pointer (some ⟨gm, k + j, none⟩)) rfl (by kernel_rfl) (by kernel_rfl) (by kernel_rfl) (fun _ _ _ h => h) (Or.inl ⟨by rfl, fun w hc => ?_⟩) (unhide HS) ?_
        · clear hc; have hq := unhide htn; have hq2 : (k : Int) + (j : Int) < 256 := (by omega); go_simp; intro h; omega
        go_simp
        refine wpAnyH_ready (rs := [11]) (by kernel_rfl) (by simp) ?_
        refine AllReadyH.cons rfl (fun K2 hK => ?_) AllReadyH.nil
        obtain ⟨cm1, cm2⟩ := unhide CM
        go_simp
        refine hK.out _ _ ⟨(row_m (unhide ND).r9).trans (by rw [unhide GM]), unhide S2⟩ (fun _ => ?_)
        clear hK K2 cm1 cm2
        refine wpAnyH_done (by kernel_rfl) ?_ _
        go_wp2
        go_roundw
        case rel => exact ⟨j + 1, by omega, by go_num, unhide ND⟩
        case measure => simp [intOf]; omega
      · obtain rfl : j = im.n := by omega
        have LI' := unhide LI
        have N1 := hide (show Nl w wr y g9 ⟨over z256 k ni, List.replicate 8 0, nn, []⟩ by
          have := unhide NR
          rw [List.take_of_length_le (by omega)] at this
          exact this)
        have N2 := hide ((unhide N1).setR (unhide GR) (unhide NE) 6 512 (by simp))
        have N3 := hide ((unhide N2).setR (unhide GR) (unhide NE) 7 st (by simp))
        have hat : y.at gr := .inr (.inl (by rw [unhide GR]; rfl))
        have ng := unhide NE gr hat
        have ng2 : g9 ≠ gr := fun e => ng e.symm
        obtain ⟨c6, f6⟩ := (unhide N1).cellR (unhide GR) 6 (by simp)
        obtain ⟨c7, f7⟩ := (unhide N1).cellR (unhide GR) 7 (by simp)
        have c9 : wr.cell? ⟨g9, 1, none⟩ = some (.slice (some ⟨gr, 0, none⟩) 8 8) := by rw [row_r (unhide N1).r9, unhide GR]
        clear NR hat LI'
        go_wp2_with (first | (refine wpList_load_row rfl 28 _ rfl g9 rfl 28 y.cs (0, 0) _ (unhide N3).r9 Try.underlying28 rfl (by kernel_rfl) ?_) | (refine wpList_store_row rfl 28 _ _ rfl w.heap.size y.cs rfl rfl 28 zMv.cs (unhide N3).re (by kernel_rfl) rfl (Mv.cs_one _) ?_))
        refine bodyPost_ret (results_cell_row (P := Try.prog) rfl _ _ w.heap.size 28 y.cs (0, 0) _ rfl (setRow_heap _ _ _ _ 28 _ (unhide N3).re) Try.underlying28 rfl (by kernel_rfl)) rfl ?_
        refine ⟨y, rfl, unhide FL, ?_, below_setRow (unhide N3).low (Nat.le_refl _) _⟩
        rw [show (a / 2).toNat = k by have := unhide HK; omega]
        exact (unhide N3).own.row (by omega) _
end Go.Proofs.Ytfkmibgamkignaa
