/- Copies of lists and machines: the program's and the model's, over this seat's translation; conditions stand as hypotheses of each. -/
import Derived.Test.YtboedaofbchdkaaDoorLawA
namespace Go.Proofs.YtboedaofbchdkaaDoor
open Go.ChangeShapes Go.WideShapes Go.ChangeAt Go.RowKit
set_option linter.unusedVariables false
set_option maxRecDepth 8000
set_option linter.unusedSimpArgs false

theorem info_parts {P : Program} {t : TypeId} {z : Option Value} {s b : Nat} (h : (P.info? t).map (fun i => (i.zero, i.size, i.bytes)) = some (z, s, b)) : ∃ i, P.info? t = some i ∧ i.zero = z ∧ i.size = s ∧ i.bytes = b := by
  cases hq : P.info? t with
  | none => simp [hq] at h
  | some i => simp [hq] at h; exact ⟨i, rfl, h⟩
/-- No address, no room. -/
def Sl.nz (s : Sl) : Prop := s.a = none → s.c = 0
def Mv.nz (x : Mv) : Prop := x.m.nz ∧ x.r.nz ∧ x.i.nz ∧ x.o.nz
theorem OwnN.nz {w : World} {B : Nat} {s : Sl} {ns : List Int} (h : OwnN w B s.v ns) : s.nz := by
  obtain ⟨a, c, e, _, _, _, _, h0⟩ := h.rd
  obtain ⟨sa, sn, sc⟩ := s
  unfold Sl.v at e
  simp at e
  obtain ⟨rfl, _, rfl⟩ := e
  exact h0
theorem OwnM.nz {w : World} {B : Nat} {x : Mv} {d : Md} (h : OwnM w B x d) : x.nz := ⟨h.m.nz, h.r.nz, h.i.nz, h.o.nz⟩
theorem rdN_cells {w : World} {ad : Addr} {ns : List Int} (h : RdN w (some ad) ns) : ∀ j u, (cellsN ns)[j]? = some u → w.cell? (ad.add j) = some u := by
  intro j u hu
  simp only [cellsN, List.getElem?_map, Option.map_eq_some_iff] at hu
  obtain ⟨y, hy, rfl⟩ := hu
  have hj := (List.getElem?_eq_some_iff.1 hy).1
  rcases h with rfl | ⟨b, off, ha, hb, hc⟩
  · simp at hj
  · cases ha
    have := hc j hj
    have e : nAt ns j = y := by unfold nAt; rw [List.getD_eq_getElem?_getD, hy]; rfl
    rw [e] at this
    unfold Addr.add
    by_cases h0 : j = 0
    · subst h0; simpa using this
    · simpa [h0] using this
/-- 'append(v, s...)', v owned, s whatever is read: as one law for the walk. -/
theorem wpList_app {w : World} {ops : Array Oper} {rest : List Oper} {o : Oper} {a : Act} {Q : Exit → Act → World → Prop} (hgd : o.guard = none) (p q : Operand) (ho : o.op = .call { callee := .builtin .append, args := #[p, q], argTypes := #[25, 25] })
    (B : Nat) (v : Value) (xs : List Int) (hs : a.eval p = v) (hown : OwnN w B v xs) (s : Sl) (ns : List Int) (hx : a.eval q = .slice s.a s.n s.c) (hr : RdN w s.a ns) (hl : ns.length = s.n) (hz : s.nz) (hm : xs.length + s.n ≤ 4194304) (hB : B ≤ w.heap.size)
    (h : ∀ v' w', OwnN w' B v' (xs ++ ns) → w.grownBy w' v.ownBlock → wpList Tryd.prog ops Q rest (a.put o.dst v') w') : wpList Tryd.prog ops Q (o :: rest) a w := by
  obtain ⟨i0, hi, hz0, hz1, hz2⟩ := info_parts info3
  obtain ⟨sa, sn, sc⟩ := s
  simp only at hx hr hl hm
  cases sa with
  | none =>
    have h0 : ns = [] := by
      rcases hr with h0 | ⟨_, _, e, _⟩
      · exact h0
      · cases e
    subst h0
    have hn : sn = 0 := by simp at hl; omega
    have hc : sc = 0 := hz rfl
    subst hn hc
    refine wpList_append_own_none hgd p q 25 ho B 3 i0 1 Tryd.underlying25 hi v xs.length (cellsN xs) hs hown hx ?_
    exact h v w (by rw [List.append_nil]; exact hown) (World.grownBy.refl _ _)
  | some ad =>
    refine wpList_append_own _ hgd p q 25 ho B 3 i0 (.int .i64 0) 1 8 Tryd.underlying25 hi hz0 hz1 hz2 rfl (by decide) v xs.length (cellsN xs) hs hown ad sn sc (cellsN ns) hx (by rw [cellsN_length]; omega) (rdN_cells hr) (cellsN_one _) (by unfold maxLen; omega) (by omega) hB ?_
    intro v' w' ho' hg _
    refine h v' w' ?_ hg
    unfold OwnN
    rw [cellsN_append, List.length_append, hl]
    exact ho'
theorem below_grown {w w' : World} (hg : w.grownBy w' none) : Below w.heap.size w w' := ⟨hg.os, hg.tape, hg.output, hg.size, fun k hk => hg.block k hk (by simp)⟩

set_option maxHeartbeats 1000000 in
theorem copyN_any (s : Sl) (ns : List Int) (w : World) (hr : RdN w s.a ns) (hl : ns.length = s.n) (hz : s.nz) (hm : s.n ≤ 1048576) :
    Calls Tryd.prog 50 #[.slice s.a s.n s.c] w fun e w' => ∃ v, e = .returned v ∧ OwnN w' w.heap.size v ns ∧ Below w.heap.size w w' := by
  go_enter Tryd.func50, Tryd.ntmps50
  go_wp2_with (at_builtin; refine wpList_app rfl _ _ rfl w.heap.size (.slice none 0 0) [] rfl (ownN_none _ _) s ns rfl hr hl hz (by simp; omega) (Nat.le_refl _) ?_; intro v' w' ho hg; have HO := hide ho; have HG := hide hg; clear ho hg)
  go_ret
  exact ⟨_, rfl, unhide HO, below_grown (unhide HG)⟩

/-- While the program copies a machine: its box, the answer's place. -/
structure Cc (w wr : World) (x : Mv) : Prop where
  bx : wr.heap[w.heap.size]? = some (.cells x.cs 32 (0, 0))
  re : wr.heap[w.heap.size + 1]? = some (.cells zMv.cs 32 (0, 0))
  bel : Below w.heap.size w wr
  sz : w.heap.size + 2 ≤ wr.heap.size
section
variable {w wr w' : World} {x : Mv}
theorem Cc.later (h : Cc w wr x) (hb : Below wr.heap.size wr w') : Cc w w' x :=
  ⟨row_lat h.bx hb, row_lat h.re hb, h.bel.trans (hb.mono (by have := h.bel.size; omega)), Nat.le_trans h.sz hb.size⟩
theorem Cc.put (h : Cc w wr x) (j : Nat) (v : Value) (x' : Mv) (he : x.cs.setIfInBounds j v = x'.cs) : Cc w (wr.setCell ⟨w.heap.size, j, none⟩ v) x' :=
  ⟨row_put h.bx j v x' he, row_keep h.re (by omega), Below.drop h.bel (by omega), by simpa using h.sz⟩
theorem cc_new0 (w : World) (x : Mv) : Cc w ((w.alloc (.cells x.cs 32)).alloc (.cells zMv.cs 32)) x := by
  have z1 : (w.alloc (.cells x.cs 32)).heap.size = w.heap.size + 1 := by simp
  have a1 := row_lat (heap_alloc_last w (.cells x.cs 32)) (below_new _ (.cells zMv.cs 32))
  have a2 := heap_alloc_last (w.alloc (.cells x.cs 32)) (.cells zMv.cs 32)
  rw [z1] at a2
  exact ⟨a1, a2, ((Below.refl _ _).alloc (Nat.le_refl _) _).alloc (by omega) _, by simp⟩
theorem cc_new (w : World) (x : Mv) : Cc w ((w.alloc (.cells x.cs 32)).alloc (.cells #[Value.slice none 0 0, Value.slice none 0 0, Value.bool false, Value.bool false, Value.bool false, Value.bool false, Value.slice none 0 0, Value.slice none 0 0, Value.int .i64 0] 32)) x := cc_new0 w x
theorem Cc.done {x : Mv} (h : Cc w wr x) : Cd w (wr.setRow (w.heap.size + 1) x.cs) x :=
  ⟨setRow_heap wr _ zMv.cs _ 32 _ h.re, below_setRow h.bel (by omega) _⟩
theorem RdM.setB {x : Mv} {d : Md} {b : Nat} (h : RdM wr x d) (hw : RdM w x d) (hb : w.heap.size ≤ b) (j : Nat) (v : Value) : RdM (wr.setCell ⟨b, j, none⟩ v) x d := by
  have key : ∀ {a : Option Addr} {ns : List Int}, RdN w a ns → ns = [] ∨ ∀ ad, a = some ad → ad.block ≠ b := fun hr => by
    rcases hr with h0 | ⟨b', off, rfl, hb', _⟩
    · exact .inl h0
    · exact .inr fun ad e => by cases e; show b' ≠ b; omega
  exact ⟨h.m.put (key hw.m), h.r.put (key hw.r), h.i.put (key hw.i), h.o.put (key hw.o), h.ml, h.rl, h.il, h.ol⟩
end

set_option maxHeartbeats 4000000 in
theorem copyM_any (x : Mv) (d : Md) (w : World) (hs : x.small) (hz : x.nz) (hr : RdM w x d) : Calls Tryd.prog 31 #[.agg x.cs] w fun e w' => ∃ y : Mv, e = .returned (.agg y.cs) ∧ y.fl = x.fl ∧ OwnM w' (w.heap.size + 2) y d ∧ Below w.heap.size w w' := by
  obtain ⟨s0, s1, s2, s3⟩ := hs
  have NZ := hide hz
  have C := hide (cc_new w x)
  have HR := hide hr
  have R := hide (hr.later (unhide C).bel)
  have q0 : x.cs[0]? = some (.slice x.m.a x.m.n x.m.c) := rfl
  have T := hide (copyN_any x.m d.m _ (unhide R).m hr.ml hz.1 s0)
  clear hr hz
  go_enter Tryd.func31, Tryd.ntmps31
  go_wp2_with fail
  refine (unhide T).mono ?_
  rintro e w0 ⟨v, rfl, own, bel⟩
  obtain ⟨a0, n0, c0, rfl⟩ : ∃ a n c, v = .slice a n c := by obtain ⟨a, c, e, _⟩ := own.rd; exact ⟨_, _, _, e⟩
  have Cn := hide ((unhide C).later bel)
  have Rn := hide ((unhide R).later bel)
  have O0 := hide (OwnN.base own (B' := w.heap.size + 2) (unhide C).sz)
  clear own bel T C R q0
  have o0 := row_m (unhide Cn).bx
  have f0 := row_fz (unhide Cn).bx 0
  have b1 := row_r (unhide Cn).bx
  have C := hide ((unhide Cn).put 0 (.slice a0 n0 c0) (⟨⟨a0, n0, c0⟩, x.r, x.n, x.z, x.v, x.c, x.i, x.o, x.st⟩ : Mv) rfl)
  have R := hide ((unhide Rn).setB (unhide HR) (Nat.le_refl _) 0 (.slice a0 n0 c0))
  have On := hide ((unhide O0).put (b := w.heap.size) (j := 0) (u := .slice a0 n0 c0) (by omega))
  clear O0
  have O0 := hide (unhide On)
  clear On
  have T := hide (copyN_any x.r d.r _ (unhide R).r (unhide R).rl (unhide NZ).2.1 s1)
  clear Cn Rn
  go_wp2_with fail
  refine (unhide T).mono ?_
  rintro e w1 ⟨v, rfl, own, bel⟩
  obtain ⟨a1, n1, c1, rfl⟩ : ∃ a n c, v = .slice a n c := by obtain ⟨a, c, e, _⟩ := own.rd; exact ⟨_, _, _, e⟩
  have Cn := hide ((unhide C).later bel)
  have Rn := hide ((unhide R).later bel)
  have O1 := hide (OwnN.base own (B' := w.heap.size + 2) (unhide C).sz)
  have On := hide ((unhide O0).later bel)
  have A01 : Hid (Ap ⟨a0, n0, c0⟩ ⟨a1, n1, c1⟩) := hide (ap_of (unhide O0) own (Nat.le_refl _))
  clear O0
  have O0 := hide (unhide On)
  clear On
  clear own bel T C R
  have o1 := row_r (unhide Cn).bx
  have f1 := row_fz (unhide Cn).bx 1
  have b6 := row_i (unhide Cn).bx
  have C := hide ((unhide Cn).put 1 (.slice a1 n1 c1) (⟨⟨a0, n0, c0⟩, ⟨a1, n1, c1⟩, x.n, x.z, x.v, x.c, x.i, x.o, x.st⟩ : Mv) rfl)
  have R := hide ((unhide Rn).setB (unhide HR) (Nat.le_refl _) 1 (.slice a1 n1 c1))
  have On := hide ((unhide O0).put (b := w.heap.size) (j := 1) (u := .slice a1 n1 c1) (by omega))
  clear O0
  have O0 := hide (unhide On)
  clear On
  have On := hide ((unhide O1).put (b := w.heap.size) (j := 1) (u := .slice a1 n1 c1) (by omega))
  clear O1
  have O1 := hide (unhide On)
  clear On
  have T := hide (copyN_any x.i d.i _ (unhide R).i (unhide R).il (unhide NZ).2.2.1 s2)
  clear Cn Rn
  go_wp2_with fail
  refine (unhide T).mono ?_
  rintro e w2 ⟨v, rfl, own, bel⟩
  obtain ⟨a2, n2, c2, rfl⟩ : ∃ a n c, v = .slice a n c := by obtain ⟨a, c, e, _⟩ := own.rd; exact ⟨_, _, _, e⟩
  have Cn := hide ((unhide C).later bel)
  have Rn := hide ((unhide R).later bel)
  have O2 := hide (OwnN.base own (B' := w.heap.size + 2) (unhide C).sz)
  have On := hide ((unhide O0).later bel)
  have A02 : Hid (Ap ⟨a0, n0, c0⟩ ⟨a2, n2, c2⟩) := hide (ap_of (unhide O0) own (Nat.le_refl _))
  clear O0
  have O0 := hide (unhide On)
  clear On
  have On := hide ((unhide O1).later bel)
  have A12 : Hid (Ap ⟨a1, n1, c1⟩ ⟨a2, n2, c2⟩) := hide (ap_of (unhide O1) own (Nat.le_refl _))
  clear O1
  have O1 := hide (unhide On)
  clear On
  clear own bel T C R
  have o6 := row_i (unhide Cn).bx
  have f6 := row_fz (unhide Cn).bx 6
  have b7 := row_o (unhide Cn).bx
  have C := hide ((unhide Cn).put 6 (.slice a2 n2 c2) (⟨⟨a0, n0, c0⟩, ⟨a1, n1, c1⟩, x.n, x.z, x.v, x.c, ⟨a2, n2, c2⟩, x.o, x.st⟩ : Mv) rfl)
  have R := hide ((unhide Rn).setB (unhide HR) (Nat.le_refl _) 6 (.slice a2 n2 c2))
  have On := hide ((unhide O0).put (b := w.heap.size) (j := 6) (u := .slice a2 n2 c2) (by omega))
  clear O0
  have O0 := hide (unhide On)
  clear On
  have On := hide ((unhide O1).put (b := w.heap.size) (j := 6) (u := .slice a2 n2 c2) (by omega))
  clear O1
  have O1 := hide (unhide On)
  clear On
  have On := hide ((unhide O2).put (b := w.heap.size) (j := 6) (u := .slice a2 n2 c2) (by omega))
  clear O2
  have O2 := hide (unhide On)
  clear On
  have T := hide (copyN_any x.o d.o _ (unhide R).o (unhide R).ol (unhide NZ).2.2.2 s3)
  clear Cn Rn
  go_wp2_with fail
  refine (unhide T).mono ?_
  rintro e w3 ⟨v, rfl, own, bel⟩
  obtain ⟨a3, n3, c3, rfl⟩ : ∃ a n c, v = .slice a n c := by obtain ⟨a, c, e, _⟩ := own.rd; exact ⟨_, _, _, e⟩
  have Cn := hide ((unhide C).later bel)
  have Rn := hide ((unhide R).later bel)
  have O3 := hide (OwnN.base own (B' := w.heap.size + 2) (unhide C).sz)
  have On := hide ((unhide O0).later bel)
  have A03 : Hid (Ap ⟨a0, n0, c0⟩ ⟨a3, n3, c3⟩) := hide (ap_of (unhide O0) own (Nat.le_refl _))
  clear O0
  have O0 := hide (unhide On)
  clear On
  have On := hide ((unhide O1).later bel)
  have A13 : Hid (Ap ⟨a1, n1, c1⟩ ⟨a3, n3, c3⟩) := hide (ap_of (unhide O1) own (Nat.le_refl _))
  clear O1
  have O1 := hide (unhide On)
  clear On
  have On := hide ((unhide O2).later bel)
  have A23 : Hid (Ap ⟨a2, n2, c2⟩ ⟨a3, n3, c3⟩) := hide (ap_of (unhide O2) own (Nat.le_refl _))
  clear O2
  have O2 := hide (unhide On)
  clear On
  clear own bel T C R
  have o7 := row_o (unhide Cn).bx
  have f7 := row_fz (unhide Cn).bx 7
  have C := hide ((unhide Cn).put 7 (.slice a3 n3 c3) (⟨⟨a0, n0, c0⟩, ⟨a1, n1, c1⟩, x.n, x.z, x.v, x.c, ⟨a2, n2, c2⟩, ⟨a3, n3, c3⟩, x.st⟩ : Mv) rfl)
  have On := hide ((unhide O0).put (b := w.heap.size) (j := 7) (u := .slice a3 n3 c3) (by omega))
  clear O0
  have O0 := hide (unhide On)
  clear On
  have On := hide ((unhide O1).put (b := w.heap.size) (j := 7) (u := .slice a3 n3 c3) (by omega))
  clear O1
  have O1 := hide (unhide On)
  clear On
  have On := hide ((unhide O2).put (b := w.heap.size) (j := 7) (u := .slice a3 n3 c3) (by omega))
  clear O2
  have O2 := hide (unhide On)
  clear On
  have On := hide ((unhide O3).put (b := w.heap.size) (j := 7) (u := .slice a3 n3 c3) (by omega))
  clear O3
  have O3 := hide (unhide On)
  clear On
  clear Cn Rn
  go_wp2_with (first | (refine wpList_load_row rfl 32 _ rfl w.heap.size rfl 32 (Mv.cs (⟨⟨a0, n0, c0⟩, ⟨a1, n1, c1⟩, x.n, x.z, x.v, x.c, ⟨a2, n2, c2⟩, ⟨a3, n3, c3⟩, x.st⟩ : Mv)) (0, 0) _ (unhide C).bx Tryd.underlying32 rfl (by kernel_rfl) ?_) | (refine wpList_store_row rfl 32 _ _ rfl (w.heap.size + 1) (Mv.cs (⟨⟨a0, n0, c0⟩, ⟨a1, n1, c1⟩, x.n, x.z, x.v, x.c, ⟨a2, n2, c2⟩, ⟨a3, n3, c3⟩, x.st⟩ : Mv)) rfl rfl 32 zMv.cs (unhide C).re (by kernel_rfl) rfl (Mv.cs_one _) ?_))
  refine bodyPost_ret (results_cell_row (P := Tryd.prog) rfl _ _ (w.heap.size + 1) 32 (Mv.cs (⟨⟨a0, n0, c0⟩, ⟨a1, n1, c1⟩, x.n, x.z, x.v, x.c, ⟨a2, n2, c2⟩, ⟨a3, n3, c3⟩, x.st⟩ : Mv)) (0, 0) _ rfl (unhide C).done.re Tryd.underlying32 rfl (by kernel_rfl)) rfl ?_
  exact ⟨(⟨⟨a0, n0, c0⟩, ⟨a1, n1, c1⟩, x.n, x.z, x.v, x.c, ⟨a2, n2, c2⟩, ⟨a3, n3, c3⟩, x.st⟩ : Mv), rfl, rfl, ⟨(unhide O0).row (by omega) _, (unhide O1).row (by omega) _, (unhide O2).row (by omega) _, (unhide O3).row (by omega) _, unhide A01, unhide A02, unhide A03, unhide A12, unhide A13, unhide A23⟩, (unhide C).done.bel⟩
end Go.Proofs.YtboedaofbchdkaaDoor
