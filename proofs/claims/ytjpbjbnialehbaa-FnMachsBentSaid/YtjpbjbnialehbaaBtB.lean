/- Contracts over this seat's translation, laid together; conditions stand as hypotheses of each. -/
import Derived.Test.YtjpbjbnialehbaaBtA
import Derived.Maps.AppendAt
import Derived.Orders
import Derived.RegionTactic
import Derived.Great.Walk
import Derived.Laws.CopyOwn

namespace Go.Proofs.Ytjpbjbnialehbaa
open Go.ChangeShapes Go.WideShapes Go.ChangeAt Go.RowKit
set_option linter.unusedVariables false
set_option maxRecDepth 8000
set_option linter.unusedSimpArgs false
theorem info_parts {P : Program} {t : TypeId} {z : Option Value} {s b : Nat} (h : (P.info? t).map (fun i => (i.zero, i.size, i.bytes)) = some (z, s, b)) : ∃ i, P.info? t = some i ∧ i.zero = z ∧ i.size = s ∧ i.bytes = b := by
  cases hq : P.info? t with
  | none => simp [hq] at h
  | some i => simp [hq] at h; exact ⟨i, rfl, h⟩
/-- No address, no room. -/
def Sl.nz (s : Sl) : Prop := s.a = none → s.c = 0
def Mv.nz (x : Mv) : Prop := x.m.nz ∧ x.r.nz ∧ x.i.nz ∧ x.o.nz
theorem OwnN.nz {w : World} {B : Nat} {s : Sl} {ns : List Int} (h : OwnN w B s.v ns) : s.nz := by
  obtain ⟨a, c, e, _, _, _, _, h0⟩ := h.rd
  obtain ⟨sa, sn, sc⟩ := s
  unfold Sl.v at e
  simp at e
  obtain ⟨rfl, _, rfl⟩ := e
  exact h0
theorem OwnM.nz {w : World} {B : Nat} {x : Mv} {d : Md} (h : OwnM w B x d) : x.nz := ⟨h.m.nz, h.r.nz, h.i.nz, h.o.nz⟩
theorem rdN_cells {w : World} {ad : Addr} {ns : List Int} (h : RdN w (some ad) ns) : ∀ j u, (cellsN ns)[j]? = some u → w.cell? (ad.add j) = some u := by
  intro j u hu
  simp only [cellsN, List.getElem?_map, Option.map_eq_some_iff] at hu
  obtain ⟨y, hy, rfl⟩ := hu
  have hj := (List.getElem?_eq_some_iff.1 hy).1
  rcases h with rfl | ⟨b, off, ha, hb, hc⟩
  · simp at hj
  · cases ha
    have := hc j hj
    have e : nAt ns j = y := by unfold nAt; rw [List.getD_eq_getElem?_getD, hy]; rfl
    rw [e] at this
    unfold Addr.add
    by_cases h0 : j = 0
    · subst h0; simpa using this
    · simpa [h0] using this
/-- 'append(v, s...)', v owned, s whatever is read: as one law for the walk. -/
theorem wpList_app {w : World} {ops : Array Oper} {rest : List Oper} {o : Oper} {a : Act} {Q : Exit → Act → World → Prop} (hgd : o.guard = none) (p q : Operand) (ho : o.op = .call { callee := .builtin .append, args := #[p, q], argTypes := #[36, 36] })
    (B : Nat) (v : Value) (xs : List Int) (hs : a.eval p = v) (hown : OwnN w B v xs) (s : Sl) (ns : List Int) (hx : a.eval q = .slice s.a s.n s.c) (hr : RdN w s.a ns) (hl : ns.length = s.n) (hz : s.nz) (hm : xs.length + s.n ≤ 4194304) (hB : B ≤ w.heap.size)
    (h : ∀ v' w', OwnN w' B v' (xs ++ ns) → w.grownBy w' v.ownBlock → wpList Try.prog ops Q rest (a.put o.dst v') w') : wpList Try.prog ops Q (o :: rest) a w := by
  obtain ⟨i0, hi, hz0, hz1, hz2⟩ := info_parts info3
  obtain ⟨sa, sn, sc⟩ := s
  simp only at hx hr hl hm
  cases sa with
  | none =>
    have h0 : ns = [] := by
      rcases hr with h0 | ⟨_, _, e, _⟩
      · exact h0
      · cases e
    subst h0
    have hn : sn = 0 := by simp at hl; omega
    have hc : sc = 0 := hz rfl
    subst hn hc
    refine wpList_append_own_none hgd p q 36 ho B 3 i0 1 Try.underlying36 hi v xs.length (cellsN xs) hs hown hx ?_
    exact h v w (by rw [List.append_nil]; exact hown) (World.grownBy.refl _ _)
  | some ad =>
    refine wpList_append_own _ hgd p q 36 ho B 3 i0 (.int .i64 0) 1 8 Try.underlying36 hi hz0 hz1 hz2 rfl (by decide) v xs.length (cellsN xs) hs hown ad sn sc (cellsN ns) hx (by rw [cellsN_length]; omega) (rdN_cells hr) (cellsN_one _) (by unfold maxLen; omega) (by omega) hB ?_
    intro v' w' ho' hg _
    refine h v' w' ?_ hg
    unfold OwnN
    rw [cellsN_append, List.length_append, hl]
    exact ho'
theorem below_grown {w w' : World} (hg : w.grownBy w' none) : Below w.heap.size w w' := ⟨hg.os, hg.tape, hg.output, hg.size, fun k hk => hg.block k hk (by simp)⟩
set_option maxHeartbeats 1000000 in
theorem copyN_any (s : Sl) (ns : List Int) (w : World) (hr : RdN w s.a ns) (hl : ns.length = s.n) (hz : s.nz) (hm : s.n ≤ 1048576) :
    Calls Try.prog 68 #[.slice s.a s.n s.c] w fun e w' => ∃ v, e = .returned v ∧ OwnN w' w.heap.size v ns ∧ Below w.heap.size w w' := by
  go_enter Try.func68, Try.ntmps68
  go_wp2_with (at_builtin; refine wpList_app rfl _ _ rfl w.heap.size (.slice none 0 0) [] rfl (ownN_none _ _) s ns rfl hr hl hz (by simp; omega) (Nat.le_refl _) ?_; intro v' w' ho hg; have HO := hide ho; have HG := hide hg; clear ho hg)
  go_ret
  exact ⟨_, rfl, unhide HO, below_grown (unhide HG)⟩
/-- While the program copies a machine: its box, the answer's place. -/
structure Cc (w wr : World) (x : Mv) : Prop where
  bx : wr.heap[w.heap.size]? = some (.cells x.cs 38 (0, 0))
  re : wr.heap[w.heap.size + 1]? = some (.cells zMv.cs 38 (0, 0))
  bel : Below w.heap.size w wr
  sz : w.heap.size + 2 ≤ wr.heap.size
section
variable {w wr w' : World} {x : Mv}
theorem Cc.later (h : Cc w wr x) (hb : Below wr.heap.size wr w') : Cc w w' x :=
  ⟨row_lat h.bx hb, row_lat h.re hb, h.bel.trans (hb.mono (by have := h.bel.size; omega)), Nat.le_trans h.sz hb.size⟩
theorem Cc.put (h : Cc w wr x) (j : Nat) (v : Value) (x' : Mv) (he : x.cs.setIfInBounds j v = x'.cs) : Cc w (wr.setCell ⟨w.heap.size, j, none⟩ v) x' :=
  ⟨row_put h.bx j v x' he, row_keep h.re (by omega), Below.drop h.bel (by omega), by simpa using h.sz⟩
theorem cc_new0 (w : World) (x : Mv) : Cc w ((w.alloc (.cells x.cs 38)).alloc (.cells zMv.cs 38)) x := by
  have z1 : (w.alloc (.cells x.cs 38)).heap.size = w.heap.size + 1 := by simp
  have a1 := row_lat (heap_alloc_last w (.cells x.cs 38)) (below_new _ (.cells zMv.cs 38))
  have a2 := heap_alloc_last (w.alloc (.cells x.cs 38)) (.cells zMv.cs 38)
  rw [z1] at a2
  exact ⟨a1, a2, ((Below.refl _ _).alloc (Nat.le_refl _) _).alloc (by omega) _, by simp⟩
theorem cc_new (w : World) (x : Mv) : Cc w ((w.alloc (.cells x.cs 38)).alloc (.cells #[Value.slice none 0 0, Value.slice none 0 0, Value.bool false, Value.bool false, Value.bool false, Value.bool false, Value.slice none 0 0, Value.slice none 0 0, Value.int .i64 0] 38)) x := cc_new0 w x
theorem Cc.done {x : Mv} (h : Cc w wr x) : Cd w (wr.setRow (w.heap.size + 1) x.cs) x :=
  ⟨setRow_heap wr _ zMv.cs _ 38 _ h.re, below_setRow h.bel (by omega) _⟩
theorem RdM.setB {x : Mv} {d : Md} {b : Nat} (h : RdM wr x d) (hw : RdM w x d) (hb : w.heap.size ≤ b) (j : Nat) (v : Value) : RdM (wr.setCell ⟨b, j, none⟩ v) x d := by
  have key : ∀ {a : Option Addr} {ns : List Int}, RdN w a ns → ns = [] ∨ ∀ ad, a = some ad → ad.block ≠ b := fun hr => by
    rcases hr with h0 | ⟨b', off, rfl, hb', _⟩
    · exact .inl h0
    · exact .inr fun ad e => by cases e; show b' ≠ b; omega
  exact ⟨h.m.put (key hw.m), h.r.put (key hw.r), h.i.put (key hw.i), h.o.put (key hw.o), h.ml, h.rl, h.il, h.ol⟩
end
set_option maxHeartbeats 4000000 in
theorem copyM_any (x : Mv) (d : Md) (w : World) (hs : x.small) (hz : x.nz) (hr : RdM w x d) : Calls Try.prog 62 #[.agg x.cs] w fun e w' => ∃ y : Mv, e = .returned (.agg y.cs) ∧ y.fl = x.fl ∧ OwnM w' (w.heap.size + 2) y d ∧ Below w.heap.size w w' := by
  obtain ⟨s0, s1, s2, s3⟩ := hs
  have NZ := hide hz
  have C := hide (cc_new w x)
  have HR := hide hr
  have R := hide (hr.later (unhide C).bel)
  have q0 : x.cs[0]? = some (.slice x.m.a x.m.n x.m.c) := rfl
  have T := hide (copyN_any x.m d.m _ (unhide R).m hr.ml hz.1 s0)
  clear hr hz
  go_enter Try.func62, Try.ntmps62
  go_wp2_with fail
  refine (unhide T).mono ?_
  rintro e w0 ⟨v, rfl, own, bel⟩
  obtain ⟨a0, n0, c0, rfl⟩ : ∃ a n c, v = .slice a n c := by obtain ⟨a, c, e, _⟩ := own.rd; exact ⟨_, _, _, e⟩
  have Cn := hide ((unhide C).later bel)
  have Rn := hide ((unhide R).later bel)
  have O0 := hide (OwnN.base own (B' := w.heap.size + 2) (unhide C).sz)
  clear own bel T C R q0
  have o0 := row_m (unhide Cn).bx
  have f0 := row_fz (unhide Cn).bx 0
  have b1 := row_r (unhide Cn).bx
  have C := hide ((unhide Cn).put 0 (.slice a0 n0 c0) (⟨⟨a0, n0, c0⟩, x.r, x.n, x.z, x.v, x.c, x.i, x.o, x.st⟩ : Mv) rfl)
  have R := hide ((unhide Rn).setB (unhide HR) (Nat.le_refl _) 0 (.slice a0 n0 c0))
  have On := hide ((unhide O0).put (b := w.heap.size) (j := 0) (u := .slice a0 n0 c0) (by omega))
  clear O0
  have O0 := hide (unhide On)
  clear On
  have T := hide (copyN_any x.r d.r _ (unhide R).r (unhide R).rl (unhide NZ).2.1 s1)
  clear Cn Rn
  go_wp2_with fail
  refine (unhide T).mono ?_
  rintro e w1 ⟨v, rfl, own, bel⟩
  obtain ⟨a1, n1, c1, rfl⟩ : ∃ a n c, v = .slice a n c := by obtain ⟨a, c, e, _⟩ := own.rd; exact ⟨_, _, _, e⟩
  have Cn := hide ((unhide C).later bel)
  have Rn := hide ((unhide R).later bel)
  have O1 := hide (OwnN.base own (B' := w.heap.size + 2) (unhide C).sz)
  have On := hide ((unhide O0).later bel)
  have A01 : Hid (Ap ⟨a0, n0, c0⟩ ⟨a1, n1, c1⟩) := hide (ap_of (unhide O0) own (Nat.le_refl _))
  clear O0
  have O0 := hide (unhide On)
  clear On
  clear own bel T C R
  have o1 := row_r (unhide Cn).bx
  have f1 := row_fz (unhide Cn).bx 1
  have b6 := row_i (unhide Cn).bx
  have C := hide ((unhide Cn).put 1 (.slice a1 n1 c1) (⟨⟨a0, n0, c0⟩, ⟨a1, n1, c1⟩, x.n, x.z, x.v, x.c, x.i, x.o, x.st⟩ : Mv) rfl)
  have R := hide ((unhide Rn).setB (unhide HR) (Nat.le_refl _) 1 (.slice a1 n1 c1))
  have On := hide ((unhide O0).put (b := w.heap.size) (j := 1) (u := .slice a1 n1 c1) (by omega))
  clear O0
  have O0 := hide (unhide On)
  clear On
  have On := hide ((unhide O1).put (b := w.heap.size) (j := 1) (u := .slice a1 n1 c1) (by omega))
  clear O1
  have O1 := hide (unhide On)
  clear On
  have T := hide (copyN_any x.i d.i _ (unhide R).i (unhide R).il (unhide NZ).2.2.1 s2)
  clear Cn Rn
  go_wp2_with fail
  refine (unhide T).mono ?_
  rintro e w2 ⟨v, rfl, own, bel⟩
  obtain ⟨a2, n2, c2, rfl⟩ : ∃ a n c, v = .slice a n c := by obtain ⟨a, c, e, _⟩ := own.rd; exact ⟨_, _, _, e⟩
  have Cn := hide ((unhide C).later bel)
  have Rn := hide ((unhide R).later bel)
  have O2 := hide (OwnN.base own (B' := w.heap.size + 2) (unhide C).sz)
  have On := hide ((unhide O0).later bel)
  have A02 : Hid (Ap ⟨a0, n0, c0⟩ ⟨a2, n2, c2⟩) := hide (ap_of (unhide O0) own (Nat.le_refl _))
  clear O0
  have O0 := hide (unhide On)
  clear On
  have On := hide ((unhide O1).later bel)
  have A12 : Hid (Ap ⟨a1, n1, c1⟩ ⟨a2, n2, c2⟩) := hide (ap_of (unhide O1) own (Nat.le_refl _))
  clear O1
  have O1 := hide (unhide On)
  clear On
  clear own bel T C R
  have o6 := row_i (unhide Cn).bx
  have f6 := row_fz (unhide Cn).bx 6
  have b7 := row_o (unhide Cn).bx
  have C := hide ((unhide Cn).put 6 (.slice a2 n2 c2) (⟨⟨a0, n0, c0⟩, ⟨a1, n1, c1⟩, x.n, x.z, x.v, x.c, ⟨a2, n2, c2⟩, x.o, x.st⟩ : Mv) rfl)
  have R := hide ((unhide Rn).setB (unhide HR) (Nat.le_refl _) 6 (.slice a2 n2 c2))
  have On := hide ((unhide O0).put (b := w.heap.size) (j := 6) (u := .slice a2 n2 c2) (by omega))
  clear O0
  have O0 := hide (unhide On)
  clear On
  have On := hide ((unhide O1).put (b := w.heap.size) (j := 6) (u := .slice a2 n2 c2) (by omega))
  clear O1
  have O1 := hide (unhide On)
  clear On
  have On := hide ((unhide O2).put (b := w.heap.size) (j := 6) (u := .slice a2 n2 c2) (by omega))
  clear O2
  have O2 := hide (unhide On)
  clear On
  have T := hide (copyN_any x.o d.o _ (unhide R).o (unhide R).ol (unhide NZ).2.2.2 s3)
  clear Cn Rn
  go_wp2_with fail
  refine (unhide T).mono ?_
  rintro e w3 ⟨v, rfl, own, bel⟩
  obtain ⟨a3, n3, c3, rfl⟩ : ∃ a n c, v = .slice a n c := by obtain ⟨a, c, e, _⟩ := own.rd; exact ⟨_, _, _, e⟩
  have Cn := hide ((unhide C).later bel)
  have Rn := hide ((unhide R).later bel)
  have O3 := hide (OwnN.base own (B' := w.heap.size + 2) (unhide C).sz)
  have On := hide ((unhide O0).later bel)
  have A03 : Hid (Ap ⟨a0, n0, c0⟩ ⟨a3, n3, c3⟩) := hide (ap_of (unhide O0) own (Nat.le_refl _))
  clear O0
  have O0 := hide (unhide On)
  clear On
  have On := hide ((unhide O1).later bel)
  have A13 : Hid (Ap ⟨a1, n1, c1⟩ ⟨a3, n3, c3⟩) := hide (ap_of (unhide O1) own (Nat.le_refl _))
  clear O1
  have O1 := hide (unhide On)
  clear On
  have On := hide ((unhide O2).later bel)
  have A23 : Hid (Ap ⟨a2, n2, c2⟩ ⟨a3, n3, c3⟩) := hide (ap_of (unhide O2) own (Nat.le_refl _))
  clear O2
  have O2 := hide (unhide On)
  clear On
  clear own bel T C R
  have o7 := row_o (unhide Cn).bx
  have f7 := row_fz (unhide Cn).bx 7
  have C := hide ((unhide Cn).put 7 (.slice a3 n3 c3) (⟨⟨a0, n0, c0⟩, ⟨a1, n1, c1⟩, x.n, x.z, x.v, x.c, ⟨a2, n2, c2⟩, ⟨a3, n3, c3⟩, x.st⟩ : Mv) rfl)
  have On := hide ((unhide O0).put (b := w.heap.size) (j := 7) (u := .slice a3 n3 c3) (by omega))
  clear O0
  have O0 := hide (unhide On)
  clear On
  have On := hide ((unhide O1).put (b := w.heap.size) (j := 7) (u := .slice a3 n3 c3) (by omega))
  clear O1
  have O1 := hide (unhide On)
  clear On
  have On := hide ((unhide O2).put (b := w.heap.size) (j := 7) (u := .slice a3 n3 c3) (by omega))
  clear O2
  have O2 := hide (unhide On)
  clear On
  have On := hide ((unhide O3).put (b := w.heap.size) (j := 7) (u := .slice a3 n3 c3) (by omega))
  clear O3
  have O3 := hide (unhide On)
  clear On
  clear Cn Rn
  go_wp2_with (first | (refine wpList_load_row rfl 38 _ rfl w.heap.size rfl 38 (Mv.cs (⟨⟨a0, n0, c0⟩, ⟨a1, n1, c1⟩, x.n, x.z, x.v, x.c, ⟨a2, n2, c2⟩, ⟨a3, n3, c3⟩, x.st⟩ : Mv)) (0, 0) _ (unhide C).bx Try.underlying38 rfl (by kernel_rfl) ?_) | (refine wpList_store_row rfl 38 _ _ rfl (w.heap.size + 1) (Mv.cs (⟨⟨a0, n0, c0⟩, ⟨a1, n1, c1⟩, x.n, x.z, x.v, x.c, ⟨a2, n2, c2⟩, ⟨a3, n3, c3⟩, x.st⟩ : Mv)) rfl rfl 38 zMv.cs (unhide C).re (by kernel_rfl) rfl (Mv.cs_one _) ?_))
  refine bodyPost_ret (results_cell_row (P := Try.prog) rfl _ _ (w.heap.size + 1) 38 (Mv.cs (⟨⟨a0, n0, c0⟩, ⟨a1, n1, c1⟩, x.n, x.z, x.v, x.c, ⟨a2, n2, c2⟩, ⟨a3, n3, c3⟩, x.st⟩ : Mv)) (0, 0) _ rfl (unhide C).done.re Try.underlying38 rfl (by kernel_rfl)) rfl ?_
  exact ⟨(⟨⟨a0, n0, c0⟩, ⟨a1, n1, c1⟩, x.n, x.z, x.v, x.c, ⟨a2, n2, c2⟩, ⟨a3, n3, c3⟩, x.st⟩ : Mv), rfl, rfl, ⟨(unhide O0).row (by omega) _, (unhide O1).row (by omega) _, (unhide O2).row (by omega) _, (unhide O3).row (by omega) _, unhide A01, unhide A02, unhide A03, unhide A12, unhide A13, unhide A23⟩, (unhide C).done.bel⟩
end Go.Proofs.Ytjpbjbnialehbaa

namespace Go.Proofs.Ytjpbjbnialehbaa
open Go.ChangeShapes Go.WideShapes Go.ChangeAt Go.RowKit
set_option linter.unusedVariables false
set_option maxRecDepth 8000
set_option linter.unusedSimpArgs false
def z256 : List Int := List.replicate 256 0
theorem z256_len : z256.length = 256 := List.length_replicate ..
/-- The cells of a memory and a machine. -/
def bigA (mem : List Int) (y : Mv) : Array Value := (cellsN mem ++ y.cs.toList).toArray
theorem info60 : (Try.prog.info? 69).map (fun i => (i.zero, i.size)) = some (some (.agg (bigA z256 zMv)), 265) := by kernel_rfl
theorem built60 (y : Mv) : Try.prog.built 69 [(1, .agg y.cs)] = some (bigA z256 y) := by kernel_rfl
theorem bigA_size {mem : List Int} (y : Mv) (h : mem.length = 256) : (bigA mem y).size = 265 := by
  simp [bigA, cellsN_length, h, Mv.cs]
theorem bigA_one (mem : List Int) (y : Mv) : (bigA mem y).all (·.oneCell') = true := by
  rw [Array.all_eq_true_iff_forall_mem]
  intro v hv
  simp only [bigA, List.mem_toArray, List.mem_append] at hv
  rcases hv with hv | hv
  · exact cellsN_one _ v hv
  · exact Array.all_eq_true_iff_forall_mem.1 (Mv.cs_one y) v (by simpa using hv)
theorem bigA_mem {mem : List Int} (y : Mv) {j : Nat} (h : mem.length = 256) (hj : j < 256) : (bigA mem y)[j]? = some (.int .i64 (nAt mem j)) := by
  simp only [bigA, List.getElem?_toArray]
  rw [List.getElem?_append_left (by rw [cellsN_length]; omega)]
  simp [cellsN, nAt, List.getElem?_eq_getElem (show j < mem.length by omega)]
theorem bigA_mach {mem : List Int} (y : Mv) {k : Nat} (h : mem.length = 256) : (bigA mem y)[256 + k]? = y.cs[k]? := by
  simp only [bigA, List.getElem?_toArray]
  rw [List.getElem?_append_right (by rw [cellsN_length]; omega), cellsN_length, h]
  simp
theorem wpList_alloc60 {w : World} {ops : Array Oper} {rest : List Oper} {o : Oper} {a : Act} {Q : Exit → Act → World → Prop} (hgd : o.guard = none) (ho : o.op = .alloc 69)
    (h : wpList Try.prog ops Q rest (a.put o.dst (.pointer (some ⟨w.heap.size, 0, none⟩))) (w.alloc (.cells (bigA z256 zMv) 69))) : wpList Try.prog ops Q (o :: rest) a w := by
  have hz := (zero_of_info info60).1
  refine wpList_plain hgd fun K hK => ?_
  unfold Oper.wp execOp
  simp only [ho, Instr.alloc, hz, Sem.run_bind, Sem.run_pure, Result.andThen_ok]
  simp [go_sem]
  exact hK _ _ h
theorem wpList_build60 {w : World} {ops : Array Oper} {rest : List Oper} {o : Oper} {a : Act} {Q : Exit → Act → World → Prop} (hgd : o.guard = none) (x : Operand) (ho : o.op = .build 69 #[(1, x)]) (y : Mv) (hx : a.eval x = .agg y.cs)
    (h : wpList Try.prog ops Q rest (a.put o.dst (.agg (bigA z256 y))) w) : wpList Try.prog ops Q (o :: rest) a w := by
  refine wpList_buildTo hgd 69 _ ho _ rfl (bigA z256 y) ?_ h
  simp only [List.map_toArray, List.map_cons, List.map_nil, hx]
  exact built60 y
theorem size60 (y : Mv) (mem : List Int) (h : mem.length = 256) : (Try.prog.info? 69).map (·.size) = some (bigA mem y).size := by
  rw [bigA_size y h]
  kernel_rfl
/-- A memory and a machine stored whole into the row made last. -/
theorem wpList_store60 {w : World} {ops : Array Oper} {rest : List Oper} {o : Oper} {a : Act} {Q : Exit → Act → World → Prop} (hgd : o.guard = none) (x z : Operand) (ho : o.op = .store 69 x z) (mem : List Int) (y : Mv) (hm : mem.length = 256)
    (hx : a.eval x = .pointer (some ⟨w.heap.size, 0, none⟩)) (hy : a.eval z = .agg (bigA mem y)) (h : wpList Try.prog ops Q rest (a.put o.dst undef) (w.alloc (.cells (bigA mem y) 69))) : wpList Try.prog ops Q (o :: rest) a (w.alloc (.cells (bigA z256 zMv) 69)) :=
  wpList_store_new hgd 69 x z ho (bigA mem y) hx hy _ (size60 y mem hm) (by rw [bigA_size y hm, bigA_size zMv z256_len]) (bigA_one _ _) h
/-- A memory and a machine loaded whole. -/
theorem wpList_load60 {w : World} {ops : Array Oper} {rest : List Oper} {o : Oper} {a : Act} {Q : Exit → Act → World → Prop} (hgd : o.guard = none) (x : Operand) (ho : o.op = .load 69 x) (g : Nat) (mem : List Int) (y : Mv) (hm : mem.length = 256)
    (hx : a.eval x = .pointer (some ⟨g, 0, none⟩)) (hg : w.heap[g]? = some (.cells (bigA mem y) 69 (0, 0))) (h : wpList Try.prog ops Q rest (a.put o.dst (.agg (bigA mem y))) w) : wpList Try.prog ops Q (o :: rest) a w :=
  wpList_load_row hgd 69 x ho g hx 69 (bigA mem y) (0, 0) _ hg Try.underlying69 rfl (size60 y mem hm) h
/-- A memory and a machine stored whole into a row that holds one. -/
theorem wpList_over60 {w : World} {ops : Array Oper} {rest : List Oper} {o : Oper} {a : Act} {Q : Exit → Act → World → Prop} (hgd : o.guard = none) (x z : Operand) (ho : o.op = .store 69 x z) (g : Nat) (mem mem0 : List Int) (y y0 : Mv) (hm : mem.length = 256) (hm0 : mem0.length = 256)
    (hx : a.eval x = .pointer (some ⟨g, 0, none⟩)) (hy : a.eval z = .agg (bigA mem y)) (hg : w.heap[g]? = some (.cells (bigA mem0 y0) 69 (0, 0))) (h : wpList Try.prog ops Q rest (a.put o.dst undef) (w.setRow g (bigA mem y))) : wpList Try.prog ops Q (o :: rest) a w :=
  wpList_store_row hgd 69 x z ho g (bigA mem y) hx hy 69 (bigA mem0 y0) hg (size60 y mem hm) (by rw [bigA_size y hm, bigA_size y0 hm0]) (bigA_one _ _) h
theorem grownBy_setRow {w : World} {g : Nat} (cs : Array Value) : w.grownBy (w.setRow g cs) (some g) :=
  ⟨rfl, rfl, rfl, by simp [World.setRow], fun k _ hk => setRow_other w g k cs (fun e => hk (by rw [e]))⟩
theorem info3s : (Try.prog.info? 3).map (·.size) = some 1 := by kernel_rfl
/-- What a copy leaves: the first of the list over the memory. -/
def laidM (ns mem : List Int) : List Int := ns.take 256 ++ mem.drop ns.length
theorem laidM_len {ns mem : List Int} (h : mem.length = 256) : (laidM ns mem).length = 256 := by
  unfold laidM
  rw [List.length_append, List.length_take, List.length_drop, h]
  omega
theorem copy_in (s : Sl) (ns mem : List Int) (y : Mv) (g : Nat) (w : World) (hg : w.heap[g]? = some (.cells (bigA mem y) 69 (0, 0))) (hmem : mem.length = 256) (hr : RdN w s.a ns) (hl : ns.length = s.n) :
    ∃ (w' : World) (k : Int), (∀ ty, (Builtin.copy_ #[36, 36] ty #[.slice (some ⟨g, 0, none⟩) 256 256, .slice s.a s.n s.c]).run Try.prog w = .ok (.int .i64 k) w') ∧ w'.heap[g]? = some (.cells (bigA (laidM ns mem) y) 69 (0, 0)) ∧ w.grownBy w' (some g) := by
  by_cases h0 : ns = []
  · subst h0
    have hn : s.n = 0 := by simpa using hl.symm
    refine ⟨w, 0, fun ty => ?_, by simpa [laidM] using hg, World.grownBy.refl _ _⟩
    have := run_copy_none (P := Try.prog) w 36 36 ty 3 (some ⟨g, 0, none⟩) s.a 256 256 s.n s.c Try.underlying36 info3s (by rw [hn]; rfl)
    simpa [goInt] using this
  · rcases hr with h1 | ⟨b, off, ha, hb, hc⟩
    · exact absurd h1 h0
    have hrd : RdN w (some ⟨b, off, none⟩) (ns.take 256) := .inr ⟨b, off, rfl, hb, fun i hi => by
      have hi' : i < ns.length ∧ i < 256 := by simp at hi; omega
      rw [hc i hi'.1]
      congr 2
      unfold nAt
      rw [List.getD_eq_getElem?_getD, List.getD_eq_getElem?_getD, List.getElem?_take, if_pos hi'.2]⟩
    refine ⟨_, _, fun ty => by rw [ha]; exact run_copy_row (P := Try.prog) w 36 36 ty 3 g 0 256 256 ⟨b, off, none⟩ s.n s.c (bigA mem y) 69 (cellsN (ns.take 256)) Try.underlying36 info3s hg (by rw [cellsN_length, List.length_take, hl, Nat.min_comm]) (rdN_cells hrd) (by rw [cellsN_length, List.length_take, bigA_size y hmem]; omega) (cellsN_one _), ?_, grownBy_setRow _⟩
    rw [setRow_heap w g _ _ 69 _ hg]
    congr 2
    unfold bigA laidM
    congr 1
    rw [List.take_zero, List.nil_append, Nat.zero_add, cellsN_length, cellsN_append, List.append_assoc]
    congr 1
    rw [List.toList_toArray, List.drop_append]
    have e1 : (cellsN mem).drop (ns.take 256).length = cellsN (mem.drop ns.length) := by
      unfold cellsN
      rw [← List.map_drop]
      congr 1
      rw [List.length_take]
      by_cases h : ns.length ≤ 256
      · rw [Nat.min_eq_right h]
      · rw [List.drop_eq_nil_of_le (by omega), List.drop_eq_nil_of_le (by omega)]
    rw [e1, cellsN_length, show (ns.take 256).length - mem.length = 0 by rw [List.length_take]; omega]
    rfl
theorem copy_out (s : Sl) (ns mem : List Int) (y : Mv) (g B : Nat) (w : World) (hg : w.heap[g]? = some (.cells (bigA mem y) 69 (0, 0))) (hmem : mem.length = 256) (ho : OwnN w B s.v ns) :
    ∃ (w' : World) (k : Int), (∀ ty, (Builtin.copy_ #[36, 36] ty #[.slice s.a s.n s.c, .slice (some ⟨g, 0, none⟩) 256 256]).run Try.prog w = .ok (.int .i64 k) w') ∧ OwnN w' B s.v (mem.take ns.length ++ ns.drop 256) ∧ w.grownBy w' s.v.ownBlock := by
  have hlen := ho.len
  obtain ⟨h1, ⟨h2, h3⟩ | ⟨gm, cap, cur, e, hB, hh, hn, hm, hs, ht⟩⟩ := id ho
  · obtain rfl : ns = [] := List.eq_nil_of_length_eq_zero h3
    have hn : s.n = 0 := by simpa using hlen.symm
    refine ⟨w, 0, fun ty => ?_, by simpa using ho, World.grownBy.refl _ _⟩
    have := run_copy_none (P := Try.prog) w 36 36 ty 3 s.a (some ⟨g, 0, none⟩) s.n s.c 256 256 Try.underlying36 info3s (by rw [hn]; rfl)
    simpa [goInt] using this
  · obtain ⟨sa, sn, sc⟩ := s
    unfold Sl.v at e
    simp at e
    obtain ⟨rfl, hsn, rfl⟩ := e
    simp only at hlen
    have hrd : RdN w (some ⟨g, 0, none⟩) (mem.take ns.length) := .inr ⟨g, 0, rfl, row_lt hg, fun i hi => by
      have hi' : i < ns.length ∧ i < 256 := by simp at hi; omega
      rw [cell_of_row w g _ _ 69 _ hg, Nat.zero_add, bigA_mem y hmem hi'.2]
      congr 2
      unfold nAt
      rw [List.getD_eq_getElem?_getD, List.getD_eq_getElem?_getD, List.getElem?_take, if_pos hi'.1]⟩
    have hcl : (cellsN (mem.take ns.length)).length = Nat.min 256 sn := by rw [cellsN_length, List.length_take, hmem, hlen, Nat.min_comm]
    have hmn : Nat.min 256 sn ≤ sn := Nat.min_le_right _ _
    refine ⟨_, _, fun ty => run_copy_row (P := Try.prog) w 36 36 ty 3 gm 0 sn sc ⟨g, 0, none⟩ 256 256 cur 3 (cellsN (mem.take ns.length)) Try.underlying36 info3s hh hcl (rdN_cells hrd) (by rw [hcl]; omega) (cellsN_one _), ?_, grownBy_setRow _⟩
    have hL : (mem.take ns.length ++ ns.drop 256).length = ns.length := by rw [List.length_append, List.length_take, List.length_drop, hmem]; omega
    unfold OwnN
    rw [hL]
    refine ⟨by rw [cellsN_length, hL]; omega, .inr ⟨gm, sc, _, ?_, hB, setRow_heap w gm _ _ 3 _ hh, hn, hm, ?_, ?_⟩⟩
    · unfold Sl.v; simp [hsn]
    · simp only [List.size_toArray, List.length_append, List.length_take, List.length_drop, Array.length_toList, cellsN_length, hmem]
      omega
    · rw [List.toList_toArray, List.take_zero, List.nil_append, Nat.zero_add, cellsN_length, cellsN_append, Nat.mul_one]
      have hq : (mem.take ns.length).length = min 256 ns.length := by rw [List.length_take, hmem, Nat.min_comm]
      rw [List.take_append, cellsN_length, List.take_of_length_le (by rw [cellsN_length, hq]; omega)]
      congr 1
      rw [hq, List.take_drop]
      have e2 : min 256 ns.length + (ns.length - min 256 ns.length) = ns.length * 1 := by omega
      rw [e2, ht]
      unfold cellsN
      rw [← List.map_drop]
      congr 1
      by_cases h : ns.length ≤ 256
      · rw [Nat.min_eq_right h, List.drop_eq_nil_of_le (Nat.le_refl _), List.drop_eq_nil_of_le h]
      · rw [Nat.min_eq_left (by omega)]
end Go.Proofs.Ytjpbjbnialehbaa

namespace Go.Proofs.Ytjpbjbnialehbaa
open Go.ChangeShapes Go.WideShapes Go.ChangeAt Go.RowKit
set_option linter.unusedVariables false
set_option maxRecDepth 8000
set_option linter.unusedSimpArgs false
/-- While a machine is made: its box, the answer's place. -/
structure Mo (w wr : World) (x : Mv) : Prop where
  bx : wr.heap[w.heap.size]? = some (.cells x.cs 38 (0, 0))
  re : wr.heap[w.heap.size + 1]? = some (.cells (bigA z256 zMv) 69 (0, 0))
  bel : Below w.heap.size w wr
  sz : w.heap.size + 2 ≤ wr.heap.size
section
variable {w wr w' : World} {x : Mv}
theorem Mo.later (h : Mo w wr x) (hb : Below wr.heap.size wr w') : Mo w w' x :=
  ⟨row_lat h.bx hb, row_lat h.re hb, h.bel.trans (hb.mono (by have := h.bel.size; omega)), Nat.le_trans h.sz hb.size⟩
theorem Mo.past {g : Nat} (h : Mo w wr x) (hg : wr.grownBy w' (some g)) (hB : w.heap.size + 2 ≤ g) : Mo w w' x :=
  ⟨(hg.block _ (row_lt h.bx) (by simp; omega)).trans h.bx, (hg.block _ (row_lt h.re) (by simp; omega)).trans h.re, h.bel.grown hg h.bel.size (fun k e => by cases e; omega), Nat.le_trans h.sz hg.size⟩
theorem mo_new (w : World) (x : Mv) : Mo w ((w.alloc (.cells x.cs 38)).alloc (.cells (bigA z256 zMv) 69)) x := by
  have z1 : (w.alloc (.cells x.cs 38)).heap.size = w.heap.size + 1 := by simp
  have a1 := row_lat (heap_alloc_last w (.cells x.cs 38)) (below_new _ (.cells (bigA z256 zMv) 69))
  have a2 := heap_alloc_last (w.alloc (.cells x.cs 38)) (.cells (bigA z256 zMv) 69)
  rw [z1] at a2
  exact ⟨a1, a2, ((Below.refl _ _).alloc (Nat.le_refl _) _).alloc (by omega) _, by simp⟩
end
theorem OwnM.row {w : World} {B g : Nat} {x : Mv} {d : Md} (h : OwnM w B x d) (hb : g < B) (cs : Array Value) : OwnM (w.setRow g cs) B x d := h.keep fun j h1 _ => setRow_other w g j cs (by omega)
set_option maxHeartbeats 1000000 in
theorem machineOf_any (x : Mv) (d : Md) (w : World) (hs : x.small) (hz : x.nz) (hr : RdM w x d) : Calls Try.prog 44 #[.agg x.cs] w fun e w' => ∃ y : Mv, e = .returned (.agg (bigA (laidM d.m z256) y)) ∧ y.fl = x.fl ∧ OwnM w' (w.heap.size + 2) y d ∧ Below w.heap.size w w' := by
  have C := hide (mo_new w x)
  have R := hide (hr.later (unhide C).bel)
  have T := hide (copyM_any x d _ hs hz (unhide R))
  have HR := hide hr
  have z1 : (w.alloc (.cells x.cs 38)).heap.size = w.heap.size + 1 := by simp
  have Z1 := hide z1
  clear hr hs hz z1
  go_enter Try.func44, Try.ntmps44
  go_wp2_with (first | (refine wpList_alloc60 rfl rfl ?_) | (refine wpList_load_row rfl 38 _ rfl w.heap.size rfl 38 x.cs (0, 0) _ (unhide C).bx Try.underlying38 rfl (by kernel_rfl) ?_))
  refine (unhide T).mono ?_
  rintro e w1 ⟨y, rfl, fy, oy, hb⟩
  have C1 := hide (((unhide C).later hb).later (below_new w1 (.cells (bigA z256 y) 69)))
  have R1 := hide (((unhide R).later hb).later (below_new w1 (.cells (bigA z256 y) 69)))
  have O1 := hide (oy.base (C := w.heap.size + 2) (by have := (unhide C).sz; omega))
  have hsz := hide (Nat.le_trans (unhide C).sz hb.size)
  have FY := hide fy
  clear C R T hb fy oy
  have hrow := hide (heap_alloc_last w1 (.cells (bigA z256 y) 69))
  obtain ⟨w2, k, hcp, hr2, hg2⟩ := copy_in x.m d.m z256 y w1.heap.size (w1.alloc (.cells (bigA z256 y) 69)).drew (unhide hrow) z256_len ((unhide R1).later below_drew).m (unhide R1).ml
  have C2 := hide (((unhide C1).later below_drew).past hg2 (unhide hsz))
  have O2 := hide ((unhide O1).keep (w' := w2) (fun g h1 h2 => (hg2.block g (Nat.lt_of_lt_of_le h2 (below_new w1 (.cells (bigA z256 y) 69)).size) (by simp; omega)).trans ((below_new w1 (.cells (bigA z256 y) 69)).block g h2)))
  have R2 := hide hr2
  clear R1 O1 hr2 hg2
  have c0 := row_m ((unhide C1).later below_drew).bx
  have CP := hide hcp
  have D0 := hide c0
  clear hcp c0
  go_wp2_with (first | (refine wpList_build60 rfl _ rfl y rfl ?_) | (refine wpList_alloc60 rfl rfl ?_) | (refine wpList_store60 rfl _ _ rfl z256 y z256_len rfl rfl ?_))
  refine wp_region_held_drew (S := fun w' => w'.cell? ⟨w.heap.size, 0, none⟩ = some (.slice x.m.a x.m.n x.m.c)) (by kernel_rfl) (unhide D0) (fun hS => ?_)
  have HS := hide hS
  clear hS
  go_simp
  refine wpAnyH_take (i := 0) (v := .pointer (some ⟨w1.heap.size, 0, none⟩)) rfl (by kernel_rfl) (by kernel_rfl) (by kernel_rfl) (fun _ _ _ h => h) (Or.inl ⟨by rfl, fun w _ => ?_⟩) (unhide HS) ?_
  · go_simp
  go_simp
  refine wpAnyH_take (i := 1) (v := .slice (some ⟨w1.heap.size, 0, none⟩) 256 256) rfl (by kernel_rfl) (by kernel_rfl) (by kernel_rfl) (fun _ _ _ h => h) (Or.inl ⟨by rfl, fun w _ => ?_⟩) (unhide HS) ?_
  · go_simp
  go_simp
  refine wpAnyH_take (i := 2) (v := .pointer (some ⟨w.heap.size, 0, none⟩)) rfl (by kernel_rfl) (by kernel_rfl) (by kernel_rfl) (fun _ _ _ h => h) (Or.inl ⟨by rfl, fun w _ => ?_⟩) (unhide HS) ?_
  · go_simp
  go_simp
  refine wpAnyH_take (i := 3) (v := .slice x.m.a x.m.n x.m.c) rfl (by kernel_rfl) (by kernel_rfl) (by kernel_rfl) (fun _ _ _ h => h) (Or.inl ⟨by rfl, fun w hc => ?_⟩) (unhide HS) ?_
  · go_simp
  go_simp
  refine wpAnyH_ready (rs := [4]) (by kernel_rfl) (by simp) ?_
  refine AllReadyH.cons rfl (fun K hK => ?_) AllReadyH.nil
  have hcp := unhide CP
  go_simp
  refine hK.out _ _ (row_m (unhide C2).bx) (fun _ => ?_)
  clear hK K hcp CP D0 HS hrow C1
  refine wpAnyH_done (by kernel_rfl) ?_ _
  go_wp2_with (first | (refine wpList_load60 rfl _ rfl w1.heap.size (laidM d.m z256) y (laidM_len z256_len) rfl (unhide R2) ?_) | (refine wpList_over60 rfl _ _ rfl (w.heap.size + 1) (laidM d.m z256) z256 y zMv (laidM_len z256_len) z256_len rfl rfl (unhide C2).re ?_))
  refine bodyPost_ret (results_cell_row (P := Try.prog) rfl _ _ (w.heap.size + 1) 69 (bigA (laidM d.m z256) y) (0, 0) _ rfl (setRow_heap w2 _ _ _ 69 _ (unhide C2).re) Try.underlying69 rfl (size60 y _ (laidM_len z256_len))) rfl ?_
  exact ⟨y, rfl, unhide FY, (unhide O2).row (by omega) _, below_setRow (unhide C2).bel (by omega) _⟩
set_option maxHeartbeats 1000000 in
theorem cell_at (g : Nat) (a : Int) (w : World) (h0 : 0 ≤ a) (h1 : a < 512) :
    Calls Try.prog 63 #[.pointer (some ⟨g, 0, none⟩), .int .i64 a] w fun e w' => e = .returned (.pointer (some ⟨g, (a / 2).toNat, none⟩)) ∧ w' = w := by
  obtain ⟨k, hk⟩ := Int.eq_ofNat_of_zero_le (show 0 ≤ a / 2 by omega)
  have hk2 : k < 256 := by omega
  rw [hk, show ((k : Int)).toNat = k by omega]
  have HK := hide hk
  go_enter Try.func63, Try.ntmps63
  go_wp2
  go_ret
  exact ⟨rfl, rfl⟩
set_option maxHeartbeats 1000000 in
theorem word_at (g : Nat) (a : Int) (mem : List Int) (y : Mv) (w : World) (h0 : 0 ≤ a) (h1 : a < 512) (hm : mem.length = 256) (hg : w.heap[g]? = some (.cells (bigA mem y) 69 (0, 0))) :
    Calls Try.prog 45 #[.pointer (some ⟨g, 0, none⟩), .int .i64 a] w fun e w' => e = .returned (.int .i64 (nAt mem (a / 2).toNat)) ∧ w' = w := by
  obtain ⟨k, hk⟩ := Int.eq_ofNat_of_zero_le (show 0 ≤ a / 2 by omega)
  have hk2 : k < 256 := by omega
  have hc : w.cell? ⟨g, k, none⟩ = some (.int .i64 (nAt mem k)) := (cell_of_row w g k _ 69 _ hg).trans (bigA_mem y hm hk2)
  have C := hide (cell_at g a w h0 h1)
  rw [hk, show ((k : Int)).toNat = k by omega] at C
  rw [hk, show ((k : Int)).toNat = k by omega]
  clear hg hk
  go_enter Try.func45, Try.ntmps45
  go_wp2_with fail
  refine (unhide C).mono ?_
  rintro e w' ⟨rfl, rfl⟩
  go_wp2
  go_ret
  exact ⟨rfl, rfl⟩
end Go.Proofs.Ytjpbjbnialehbaa

namespace Go.Proofs.Ytjpbjbnialehbaa
open Go.ChangeShapes Go.WideShapes Go.ChangeAt Go.RowKit
set_option linter.unusedVariables false
set_option maxRecDepth 8000
set_option linter.unusedSimpArgs false
/-- Is it an address? -/
def adB (a : Int) : Bool := inB a 0 510 && (a % 2 == 0)
theorem adB_t {a : Int} (h : adB a = true) : 0 ≤ a ∧ a ≤ 510 ∧ a % 2 = 0 := by
  unfold adB inB at h
  simp at h
  omega
theorem adB_f {a : Int} (h : a < 0 ∨ 511 ≤ a ∨ a % 2 ≠ 0) : adB a = false := by
  cases hb : adB a
  · rfl
  · have := adB_t hb; omega
theorem adB_i {a : Int} (h0 : 0 ≤ a) (h1 : a ≤ 510) (h2 : a % 2 = 0) : adB a = true := by
  unfold adB inB
  simp
  omega
/-- Has it a word there? -/
def Md.has (d : Md) (a : Int) : Bool := adB a && decide (a / 2 < (d.m.length : Int))
def Md.get (d : Md) (a : Int) : Int := if d.has a = true then nAt d.m (a / 2).toNat else 0
theorem has_t {d : Md} {a : Int} (h : d.has a = true) : adB a = true ∧ a / 2 < (d.m.length : Int) := by
  unfold Md.has at h
  simpa using h
set_option maxHeartbeats 1000000 in
theorem isAddr_any (a : Int) (w : World) : Calls Try.prog 61 #[.int .i64 a] w fun e w' => e = .returned (.bool (adB a)) ∧ w' = w := by
  by_cases h0 : 0 ≤ a
  · by_cases h1 : a < 512
    · cases h2 : (a % 2 == 0)
      · have F := hide (adB_f (a := a) (.inr (.inr (by simpa using h2))))
        go_enter Try.func61, Try.ntmps61
        go_wp2
        go_ret
        exact ⟨ret_bool (unhide F).symm, rfl⟩
      · have e2 : a % 2 = 0 := by simpa using h2
        have F := hide (adB_i h0 (by omega) e2)
        clear e2
        go_enter Try.func61, Try.ntmps61
        go_wp2
        go_ret
        exact ⟨ret_bool (unhide F).symm, rfl⟩
    · have F := hide (adB_f (a := a) (.inr (.inl (by omega))))
      go_enter Try.func61, Try.ntmps61
      go_wp2
      go_ret
      exact ⟨ret_bool (unhide F).symm, rfl⟩
  · have F := hide (adB_f (a := a) (.inl (by omega)))
    go_enter Try.func61, Try.ntmps61
    go_wp2
    go_ret
    exact ⟨ret_bool (unhide F).symm, rfl⟩
set_option maxHeartbeats 1000000 in
theorem has_any (x : Mv) (d : Md) (a : Int) (w : World) (hl : d.m.length = x.m.n) (hs : x.m.n ≤ 1048576) : Calls Try.prog 43 #[.agg x.cs, .int .i64 a] w fun e w' => e = .returned (.bool (d.has a)) ∧ Below w.heap.size w w' := by
  have HB := hide ((Below.refl w.heap.size w).alloc (Nat.le_refl _) (.cells x.cs 38))
  have c0 : x.cs[0]? = some (.slice x.m.a x.m.n x.m.c) := rfl
  have I := hide (fun w => isAddr_any a w)
  unfold Md.has
  rw [hl]
  have T := hide (adB_t (a := a))
  generalize adB a = q at I T ⊢
  cases q
  · go_enter Try.func43, Try.ntmps43
    go_wp2_with (go_at_call 61; refine (unhide I _).mono ?_; rintro e w' ⟨rfl, rfl⟩)
    go_ret
    exact ⟨rfl, unhide HB⟩
  · obtain ⟨t0, t1, _⟩ := unhide T (by trivial)
    go_enter Try.func43, Try.ntmps43
    go_wp2_with (go_at_call 61; refine (unhide I _).mono ?_; rintro e w' ⟨rfl, rfl⟩)
    go_ret
    exact ⟨rfl, unhide HB⟩
set_option maxHeartbeats 1000000 in
theorem readS_any (x : Mv) (d : Md) (a : Int) (w : World) (hs : x.small) (hr : RdM w x d) : Calls Try.prog 20 #[.agg x.cs, .int .i64 a] w fun e w' => e = .returned (.tuple #[.int .i64 (d.get a), .bool (d.has a)]) ∧ Below w.heap.size w w' := by
  have HB := hide ((Below.refl w.heap.size w).alloc (Nat.le_refl _) (.cells x.cs 38))
  have X := hide (hr.later (unhide HB))
  have c0 : x.cs[0]? = some (.slice x.m.a x.m.n x.m.c) := rfl
  have hl := hr.ml
  have hs0 := hs.1
  unfold Md.get
  have I := hide (fun w => in_any a 0 510 w)
  clear hr hs
  by_cases h0 : inB a 0 510 = true
  · have hb : 0 ≤ a ∧ a ≤ 510 := by unfold inB at h0; simpa using h0
    obtain ⟨b0, b1⟩ := hb
    rw [h0] at I
    by_cases h2 : a % 2 = 0
    · have e2 := hide h2
      have g2 : a % 2 ≤ 0 := by omega
      by_cases h3 : a / 2 < (x.m.n : Int)
      · have hh : d.has a = true := by unfold Md.has; rw [adB_i b0 b1 h2, hl]; simpa using h3
        rw [hh, if_pos rfl]
        obtain ⟨k, hk⟩ := Int.eq_ofNat_of_zero_le (show 0 ≤ a / 2 by omega)
        have hkl : k < x.m.n := by omega
        rcases (unhide X).m with h00 | ⟨b, off, ha, hbl, hc⟩
        · rw [h00] at hl; simp at hl; omega
        have hcx := hc k (by omega)
        rw [hk, show ((k : Int)).toNat = k by omega]
        rw [ha] at c0
        have HK := hide hk
        have HX := hide X
        clear h2 hl hh hc X ha
        go_enter Try.func20, Try.ntmps20
        go_wp2_with (go_at_call 46; refine (unhide I _).mono ?_; rintro e w' ⟨rfl, hw'⟩; rw [hw']; clear hw' w')
        go_ret2
        exact ⟨rfl, unhide HB⟩
      · have hh : d.has a = false := by unfold Md.has; rw [hl]; simp; intro _; omega
        rw [hh, if_neg (by simp)]
        clear h2 hl hh
        go_enter Try.func20, Try.ntmps20
        go_wp2_with (go_at_call 46; refine (unhide I _).mono ?_; rintro e w' ⟨rfl, hw'⟩; rw [hw']; clear hw' w')
        go_ret2
        exact ⟨rfl, unhide HB⟩
    · have hh : d.has a = false := by unfold Md.has; rw [adB_f (.inr (.inr h2))]; rfl
      rw [hh, if_neg (by simp)]
      have g2 : 0 < a % 2 := by omega
      clear hl hh
      go_enter Try.func20, Try.ntmps20
      go_wp2_with (go_at_call 46; refine (unhide I _).mono ?_; rintro e w' ⟨rfl, hw'⟩; rw [hw']; clear hw' w')
      go_ret2
      exact ⟨rfl, unhide HB⟩
  · have h0' : inB a 0 510 = false := by simpa using h0
    have hh : d.has a = false := by unfold Md.has adB; rw [h0']; rfl
    rw [hh, if_neg (by simp)]
    rw [h0'] at I
    clear hl hh h0 h0'
    go_enter Try.func20, Try.ntmps20
    go_wp2_with (go_at_call 46; refine (unhide I _).mono ?_; rintro e w' ⟨rfl, hw'⟩; rw [hw']; clear hw' w')
    go_ret2
    exact ⟨rfl, unhide HB⟩
end Go.Proofs.Ytjpbjbnialehbaa

namespace Go.Proofs.Ytjpbjbnialehbaa
open Go.ChangeShapes Go.WideShapes Go.ChangeAt Go.RowKit
set_option linter.unusedVariables false
set_option maxRecDepth 8000
set_option linter.unusedSimpArgs false
theorem nAt_laid {ns mem : List Int} {k : Nat} (h : k < 256) (hk : k < ns.length) : nAt (laidM ns mem) k = nAt ns k := by
  unfold nAt laidM
  rw [List.getD_eq_getElem?_getD, List.getD_eq_getElem?_getD, List.getElem?_append_left (by rw [List.length_take]; omega), List.getElem?_take, if_pos h]
set_option maxHeartbeats 1000000 in
theorem readI_any (x : Mv) (d : Md) (a : Int) (w : World) (hs : x.small) (hz : x.nz) (hr : RdM w x d) : Calls Try.prog 19 #[.agg x.cs, .int .i64 a] w fun e w' => e = .returned (.tuple #[.int .i64 (d.get a), .bool (d.has a)]) ∧ Below w.heap.size w w' := by
  have HB := hide (below_new w (.cells x.cs 38))
  have X := hide (hr.later (unhide HB))
  have R0 := hide (heap_alloc_last w (.cells x.cs 38))
  have H := hide (has_any x d a (w.alloc (.cells x.cs 38)) hr.ml hs.1)
  have HT := hide (has_t (d := d) (a := a))
  have S := hide hs
  have NZ := hide hz
  unfold Md.get
  clear hr hs hz
  generalize d.has a = q at H HT ⊢
  go_enter Try.func19, Try.ntmps19
  go_wp2_with (refine wpList_load_row rfl 38 _ rfl w.heap.size rfl 38 x.cs (0, 0) _ (unhide R0) Try.underlying38 rfl (by kernel_rfl) ?_)
  refine (unhide H).mono ?_
  rintro e w1 ⟨rfl, hb⟩
  have X1 := hide ((unhide X).later hb)
  have R1 := hide (row_lat (unhide R0) hb)
  have B1 := hide ((unhide HB).trans (hb.mono (by have := (unhide HB).size; omega)))
  clear hb X R0 HB H
  cases q
  · go_wp2
    go_ret2
    exact ⟨rfl, unhide B1⟩
  obtain ⟨ta, tl⟩ := unhide HT (by trivial)
  obtain ⟨t0, t1, _⟩ := adB_t ta
  clear HT ta
  have M := hide (machineOf_any x d w1 (unhide S) (unhide NZ) (unhide X1))
  go_wp2_with (refine wpList_load_row rfl 38 _ rfl w.heap.size rfl 38 x.cs (0, 0) _ (unhide R1) Try.underlying38 rfl (by kernel_rfl) ?_)
  refine (unhide M).mono ?_
  rintro e w2 ⟨y, rfl, fy, oy, hb⟩
  have B2 := hide (((unhide B1).trans (hb.mono (by have := (unhide B1).size; omega))).alloc (by have := hb.size; have := (unhide B1).size; omega) (.cells (bigA (laidM d.m z256) y) 69))
  have W2 := hide (word_at w2.heap.size a (laidM d.m z256) y (w2.alloc (.cells (bigA (laidM d.m z256) y) 69)) t0 (by omega) (laidM_len z256_len) (heap_alloc_last w2 _))
  have E : nAt (laidM d.m z256) (a / 2).toNat = nAt d.m (a / 2).toNat := nAt_laid (by omega) (by omega)
  rw [E] at W2
  clear hb fy oy M B1 E
  go_wp2_with (first | (refine wpList_alloc60 rfl rfl ?_) | (refine wpList_store60 rfl _ _ rfl (laidM d.m z256) y (laidM_len z256_len) rfl rfl ?_))
  refine (unhide W2).mono ?_
  rintro e w' ⟨rfl, rfl⟩
  go_wp2
  go_ret2
  exact ⟨by simp, unhide B2⟩
end Go.Proofs.Ytjpbjbnialehbaa

namespace Go.Proofs.Ytjpbjbnialehbaa
open Go.ChangeShapes Go.WideShapes Go.ChangeAt Go.RowKit
set_option linter.unusedVariables false
set_option maxRecDepth 8000
set_option linter.unusedSimpArgs false
theorem bigA_set {mem : List Int} (y : Mv) (k : Nat) (v : Int) (hm : mem.length = 256) (hk : k < 256) : (bigA mem y).setIfInBounds k (.int .i64 v) = bigA (mem.set k v) y := by
  unfold bigA
  rw [List.setIfInBounds_toArray, List.set_append_left _ _ (by rw [cellsN_length]; omega)]
  congr 2
  unfold cellsN
  rw [List.map_set]
theorem quo2 {a : Int} {k : Nat} (h0 : 0 ≤ a) (h1 : a < 9223372036854775807) (hk : a / 2 = (k : Int)) : IntKind.i64.wrap (a.tdiv 2) = (k : Int) := by
  rw [Int.tdiv_eq_ediv_of_nonneg h0, IntKind.wrap_i64]
  omega
set_option maxHeartbeats 1000000 in
theorem setWord_any (g : Nat) (a n : Int) (mem : List Int) (y : Mv) (w : World) (h0 : 0 ≤ a) (h1 : a < 512) (hm : mem.length = 256) (hg : w.heap[g]? = some (.cells (bigA mem y) 69 (0, 0))) :
    Calls Try.prog 48 #[.pointer (some ⟨g, 0, none⟩), .int .i64 a, .int .i64 n] w fun e w' => e = .returned (.tuple #[]) ∧ w'.heap[g]? = some (.cells (bigA (mem.set (a / 2).toNat (n % 65536)) y) 69 (0, 0)) ∧ w.grownBy w' (some g) := by
  obtain ⟨k, hk⟩ := Int.eq_ofNat_of_zero_le (show 0 ≤ a / 2 by omega)
  have hk2 : k < 256 := by omega
  have hc : w.cell? ⟨g, k, none⟩ = some (.int .i64 (nAt mem k)) := (cell_of_row w g k _ 69 _ hg).trans (bigA_mem y hm hk2)
  have hf : w.frozen? ⟨g, k, none⟩ = false := by simp [World.frozen?, hg]
  rw [hk, show ((k : Int)).toNat = k by omega]
  have E1 := hide ((show (w.setCell ⟨g, k, none⟩ (.int .i64 (n % 65536))).heap[g]? = some (.cells (bigA (mem.set k (n % 65536)) y) 69 (0, 0)) by rw [setCell_eq_setRow w g k _ 69 (0, 0) _ hg, bigA_set y k _ hm hk2]; exact setRow_heap w g _ _ 69 _ hg))
  have E2 := hide (grownBy_set (w := w) (b := g) (o := k) (.int .i64 (n % 65536)))
  have WR := hide (fun w => wrapI_any n w)
  generalize n % 65536 = q at E1 E2 WR ⊢
  have CL := hide (fun w => cell_at g a w h0 h1)
  rw [hk, show ((k : Int)).toNat = k by omega] at CL
  clear hg hk
  go_enter Try.func48, Try.ntmps48
  go_wp2_with fail
  refine (unhide CL _).mono ?_
  rintro e w' ⟨rfl, rfl⟩
  go_wp2_with fail
  refine (unhide WR _).mono ?_
  rintro e w' ⟨rfl, rfl⟩
  go_wp2
  go_end0
  exact ⟨rfl, unhide E1, unhide E2⟩
end Go.Proofs.Ytjpbjbnialehbaa

namespace Go.Proofs.Ytjpbjbnialehbaa
open Go.ChangeShapes Go.WideShapes Go.ChangeAt Go.RowKit
set_option linter.unusedVariables false
set_option maxRecDepth 8000
set_option linter.unusedSimpArgs false
theorem big_cell {w : World} {g : Nat} {mem : List Int} {y : Mv} (h : w.heap[g]? = some (.cells (bigA mem y) 69 (0, 0))) (hm : mem.length = 256) (k : Nat) (v : Value) (hv : y.cs[k]? = some v) : w.cell? ⟨g, 256 + k, none⟩ = some v :=
  (cell_of_row w g _ _ 69 _ h).trans ((bigA_mach y hm).trans hv)
/-- One list written: the others stay. -/
theorem OwnM.putM {w w' : World} {B : Nat} {x : Mv} {d : Md} {ns : List Int} (h : OwnM w B x d) (hg : w.grownBy w' x.m.v.ownBlock) (hn : OwnN w' B x.m.v ns) : OwnM w' B x ⟨ns, d.r, d.i, d.o⟩ :=
  { h with
    m := hn
    r := h.r.keep fun q hv hq => hg.block q hq (fun e => h.mr q e.symm hv)
    i := h.i.keep fun q hv hq => hg.block q hq (fun e => h.mi q e.symm hv)
    o := h.o.keep fun q hv hq => hg.block q hq (fun e => h.mo q e.symm hv) }
theorem OwnM.rowN {w w2 : World} {B B' : Nat} {x : Mv} {d d' : Md} (h : OwnM w2 B x d) (h0 : OwnM w B' x d') (cs : Array Value) : OwnM (w2.setRow w.heap.size cs) B x d :=
  { h with
    m := h.m.keep fun q hv _ => setRow_other w2 _ q cs (by have := (h0.m.lt hv).2; omega)
    r := h.r.keep fun q hv _ => setRow_other w2 _ q cs (by have := (h0.r.lt hv).2; omega)
    i := h.i.keep fun q hv _ => setRow_other w2 _ q cs (by have := (h0.i.lt hv).2; omega)
    o := h.o.keep fun q hv _ => setRow_other w2 _ q cs (by have := (h0.o.lt hv).2; omega) }
def zC : Array Value := #[Value.slice none 0 0, Value.slice none 0 0, Value.bool false, Value.bool false, Value.bool false, Value.bool false, Value.slice none 0 0, Value.slice none 0 0, Value.int .i64 0]
theorem own_ne {w : World} {B g : Nat} {s : Sl} {ns : List Int} (h : OwnN w B s.v ns) (hg : g < B ∨ w.heap.size ≤ g) : some g ≠ s.v.ownBlock := fun e => by
  have := h.lt e.symm
  omega
set_option maxHeartbeats 2000000 in
theorem answer_any (g B : Nat) (mem : List Int) (y : Mv) (d : Md) (w : World) (hm : mem.length = 256) (hg : w.heap[g]? = some (.cells (bigA mem y) 69 (0, 0))) (ho : OwnM w B y d) (hB : some g ≠ y.m.v.ownBlock) :
    Calls Try.prog 47 #[.pointer (some ⟨g, 0, none⟩)] w fun e w' => e = .returned (.agg y.cs) ∧ OwnM w' B y ⟨mem.take d.m.length ++ d.m.drop 256, d.r, d.i, d.o⟩ ∧ w.grownBy w' y.m.v.ownBlock := by
  have b1 := (below_new w (.cells #[Value.slice none 0 0, Value.slice none 0 0, Value.bool false, Value.bool false, Value.bool false, Value.bool false, Value.slice none 0 0, Value.slice none 0 0, Value.int .i64 0] 38)).trans ((below_drew (w := w.alloc (.cells #[Value.slice none 0 0, Value.slice none 0 0, Value.bool false, Value.bool false, Value.bool false, Value.bool false, Value.slice none 0 0, Value.slice none 0 0, Value.int .i64 0] 38))).mono (below_new w (.cells #[Value.slice none 0 0, Value.slice none 0 0, Value.bool false, Value.bool false, Value.bool false, Value.bool false, Value.slice none 0 0, Value.slice none 0 0, Value.int .i64 0] 38)).size)
  have g1 := row_lat hg b1
  have r1 : (w.alloc (.cells #[Value.slice none 0 0, Value.slice none 0 0, Value.bool false, Value.bool false, Value.bool false, Value.bool false, Value.slice none 0 0, Value.slice none 0 0, Value.int .i64 0] 38)).drew.heap[w.heap.size]? = some (.cells #[Value.slice none 0 0, Value.slice none 0 0, Value.bool false, Value.bool false, Value.bool false, Value.bool false, Value.slice none 0 0, Value.slice none 0 0, Value.int .i64 0] 38 (0, 0)) := heap_alloc_last w _
  have o1 := ho.later b1
  obtain ⟨w2, k, hcp, hn, hgr⟩ := copy_out y.m d.m mem y g B (w.alloc (.cells #[Value.slice none 0 0, Value.slice none 0 0, Value.bool false, Value.bool false, Value.bool false, Value.bool false, Value.slice none 0 0, Value.slice none 0 0, Value.int .i64 0] 38)).drew g1 hm o1.m
  have O2 := hide (o1.putM hgr hn)
  have G2 := hide ((hgr.block g (row_lt g1) hB).trans g1)
  have R2 := hide ((hgr.block w.heap.size (row_lt r1) (own_ne ho.m (.inr (Nat.le_refl _)))).trans r1)
  have GR := hide (grownBy_trans (grownBy_below b1) hgr)
  have HO := hide ho
  have C1 := hide (big_cell g1 hm 0 _ rfl)
  have CP := hide hcp
  clear hcp hn hgr o1 r1 b1 ho hg
  go_enter Try.func47, Try.ntmps47
  go_wp2_with fail
  refine wp_region_held_drew (S := fun w' => w'.cell? ⟨g, 256, none⟩ = some (.slice y.m.a y.m.n y.m.c)) (by kernel_rfl) (unhide C1) (fun hS => ?_)
  have HS := hide hS
  clear hS
  refine wpAnyH_take (i := 0) (v := .pointer (some ⟨g, 0, none⟩)) rfl (by kernel_rfl) (by kernel_rfl) (by kernel_rfl) (fun _ _ _ h => h) (Or.inl ⟨by rfl, fun w hc => ?_⟩) (unhide HS) ?_
  · clear hc; go_simp
  go_simp
  refine wpAnyH_take (i := 1) (v := .pointer (some ⟨g, 0, none⟩)) rfl (by kernel_rfl) (by kernel_rfl) (by kernel_rfl) (fun _ _ _ h => h) (Or.inl ⟨by rfl, fun w hc => ?_⟩) (unhide HS) ?_
  · clear hc; go_simp
  go_simp
  refine wpAnyH_take (i := 2) (v := .pointer (some ⟨g, 256, none⟩)) rfl (by kernel_rfl) (by kernel_rfl) (by kernel_rfl) (fun _ _ _ h => h) (Or.inl ⟨by rfl, fun w hc => ?_⟩) (unhide HS) ?_
  · clear hc; go_simp
  go_simp
  refine wpAnyH_take (i := 3) (v := .pointer (some ⟨g, 256, none⟩)) rfl (by kernel_rfl) (by kernel_rfl) (by kernel_rfl) (fun _ _ _ h => h) (Or.inl ⟨by rfl, fun w hc => ?_⟩) (unhide HS) ?_
  · clear hc; go_simp
  go_simp
  refine wpAnyH_take (i := 4) (v := .slice y.m.a y.m.n y.m.c) rfl (by kernel_rfl) (by kernel_rfl) (by kernel_rfl) (fun _ _ _ h => h) (Or.inl ⟨by rfl, fun w hc => ?_⟩) (unhide HS) ?_
  · go_simp
  go_simp
  refine wpAnyH_take (i := 5) (v := .pointer (some ⟨g, 0, none⟩)) rfl (by kernel_rfl) (by kernel_rfl) (by kernel_rfl) (fun _ _ _ h => h) (Or.inl ⟨by rfl, fun w hc => ?_⟩) (unhide HS) ?_
  · clear hc; go_simp
  go_simp
  refine wpAnyH_take (i := 6) (v := .pointer (some ⟨g, 0, none⟩)) rfl (by kernel_rfl) (by kernel_rfl) (by kernel_rfl) (fun _ _ _ h => h) (Or.inl ⟨by rfl, fun w hc => ?_⟩) (unhide HS) ?_
  · clear hc; go_simp
  go_simp
  refine wpAnyH_take (i := 7) (v := .pointer (some ⟨g, 0, none⟩)) rfl (by kernel_rfl) (by kernel_rfl) (by kernel_rfl) (fun _ _ _ h => h) (Or.inl ⟨by rfl, fun w hc => ?_⟩) (unhide HS) ?_
  · clear hc; go_simp
  go_simp
  refine wpAnyH_take (i := 8) (v := .slice (some ⟨g, 0, none⟩) 256 256) rfl (by kernel_rfl) (by kernel_rfl) (by kernel_rfl) (fun _ _ _ h => h) (Or.inl ⟨by rfl, fun w hc => ?_⟩) (unhide HS) ?_
  · clear hc; go_simp
  go_simp
  refine wpAnyH_ready (rs := [9]) (by kernel_rfl) (by simp) ?_
  refine AllReadyH.cons rfl (fun K hK => ?_) AllReadyH.nil
  have hcp := unhide CP
  go_simp
  refine hK.out _ _ (big_cell (unhide G2) hm 0 _ rfl) (fun _ => ?_)
  clear hK K hcp CP HS C1
  refine wpAnyH_done (by kernel_rfl) ?_ _
  have c0 : w2.cell? ⟨g, 256, none⟩ = some (.slice y.m.a y.m.n y.m.c) := big_cell (unhide G2) hm 0 _ rfl
  have c1 : w2.cell? ⟨g, 257, none⟩ = some (.slice y.r.a y.r.n y.r.c) := big_cell (unhide G2) hm 1 _ rfl
  have c2 : w2.cell? ⟨g, 258, none⟩ = some (.bool y.n) := big_cell (unhide G2) hm 2 _ rfl
  have c3 : w2.cell? ⟨g, 259, none⟩ = some (.bool y.z) := big_cell (unhide G2) hm 3 _ rfl
  have c4 : w2.cell? ⟨g, 260, none⟩ = some (.bool y.v) := big_cell (unhide G2) hm 4 _ rfl
  have c5 : w2.cell? ⟨g, 261, none⟩ = some (.bool y.c) := big_cell (unhide G2) hm 5 _ rfl
  have c6 : w2.cell? ⟨g, 262, none⟩ = some (.slice y.i.a y.i.n y.i.c) := big_cell (unhide G2) hm 6 _ rfl
  have c7 : w2.cell? ⟨g, 263, none⟩ = some (.slice y.o.a y.o.n y.o.c) := big_cell (unhide G2) hm 7 _ rfl
  have c8 : w2.cell? ⟨g, 264, none⟩ = some (.int .i64 y.st) := big_cell (unhide G2) hm 8 _ rfl
  go_wp2_with (refine wpList_store_row rfl 38 _ _ rfl w.heap.size y.cs rfl rfl 38 zC (unhide R2) (by kernel_rfl) rfl (Mv.cs_one _) ?_)
  refine bodyPost_ret (results_cell_row (P := Try.prog) rfl _ _ w.heap.size 38 y.cs (0, 0) _ rfl (setRow_heap w2 _ _ _ 38 _ (unhide R2)) Try.underlying38 rfl (by kernel_rfl)) rfl ?_
  exact ⟨rfl, (unhide O2).rowN (unhide HO) _, grownBy_own (unhide GR) (grownBy_setRow _) (fun b e => by cases e; exact Nat.le_refl _)⟩
end Go.Proofs.Ytjpbjbnialehbaa

namespace Go.Proofs.Ytjpbjbnialehbaa
open Go.ChangeShapes Go.WideShapes Go.ChangeAt Go.RowKit
set_option linter.unusedVariables false
set_option maxRecDepth 8000
set_option linter.unusedSimpArgs false
theorem results_row2 {P : Program} {fn : Func} {p u : Tmp} {ty : TypeId} (h : fn.results = #[.cell p ty, .tmp u]) (tmps : Array Value) (w : World) (g : Nat) (t : TypeId) (cs : Array Value) (fr : Nat × Nat) (d : TypeDesc)
    (hp : tmps.getD p undef = .pointer (some ⟨g, 0, none⟩)) (hg : w.heap[g]? = some (.cells cs t fr))
    (hu : P.underlying ty = some d) (hd : (match d with | .struct _ | .array _ _ => true | _ => false) = true) (hi : (P.info? ty).map (·.size) = some cs.size) :
    (results fn tmps).run P w = .ok (.tuple #[.agg cs, tmps.getD u undef]) w := by
  have hp' : tmps[p]?.getD undef = .pointer (some ⟨g, 0, none⟩) := by simpa using hp
  simp [results, h, hp', asAddr, run_loadVar_row w g t ty cs fr d hg hu hd hi]
/-- What stands behind a write. -/
def Md.put (d : Md) (a n : Int) : Md := if d.has a = true then ⟨d.m.set (a / 2).toNat (n % 65536), d.r, d.i, d.o⟩ else d
theorem back_same (ns : List Int) : (laidM ns z256).take ns.length ++ ns.drop 256 = ns := by
  unfold laidM
  by_cases h : ns.length ≤ 256
  · rw [List.take_of_length_le h, List.drop_eq_nil_of_le h, List.append_nil, List.take_append_of_le_length (Nat.le_refl _), List.take_of_length_le (Nat.le_refl _)]
  · have hz : z256.drop ns.length = [] := List.drop_eq_nil_of_le (by rw [z256_len]; omega)
    rw [hz, List.append_nil, List.take_of_length_le (by rw [List.length_take]; omega), List.take_append_drop]
theorem back_set (ns : List Int) (k : Nat) (v : Int) (h : k < 256) (hk : k < ns.length) : ((laidM ns z256).set k v).take ns.length ++ ns.drop 256 = ns.set k v := by
  have hb := back_same ns
  rw [List.take_set, ← List.set_append_left _ _ (by rw [List.length_take, laidM_len z256_len]; omega), hb]
theorem Cc.pastR {w wr w' : World} {x : Mv} {row : Option Nat} (h : Cc w wr x) (hg : wr.grownBy w' row) (hr : ∀ g, row = some g → w.heap.size + 2 ≤ g) : Cc w w' x :=
  ⟨(hg.block _ (row_lt h.bx) (fun e => by have := hr _ e.symm; omega)).trans h.bx, (hg.block _ (row_lt h.re) (fun e => by have := hr _ e.symm; omega)).trans h.re, h.bel.grown hg h.bel.size (fun k e => by have := hr _ e; omega), Nat.le_trans h.sz hg.size⟩
/-- Rows that the machine's lists do not lie in may be written. -/
theorem OwnM.pastN {w w' w1 : World} {B B' : Nat} {x : Mv} {d d' : Md} (h : OwnM w B x d) (h0 : OwnM w1 B' x d') (hg : w.grownBy w' (some w1.heap.size)) : OwnM w' B x d :=
  { h with
    m := h.m.keep fun q hv hq => hg.block q hq (by have := (h0.m.lt hv).2; simp; omega)
    r := h.r.keep fun q hv hq => hg.block q hq (by have := (h0.r.lt hv).2; simp; omega)
    i := h.i.keep fun q hv hq => hg.block q hq (by have := (h0.i.lt hv).2; simp; omega)
    o := h.o.keep fun q hv hq => hg.block q hq (by have := (h0.o.lt hv).2; simp; omega) }
set_option maxHeartbeats 2000000 in
theorem writeI_any (x : Mv) (d : Md) (a n : Int) (w : World) (hs : x.small) (hz : x.nz) (hr : RdM w x d) : Calls Try.prog 22 #[.agg x.cs, .int .i64 a, .int .i64 n] w fun e w' => ∃ y : Mv, e = .returned (.tuple #[.agg y.cs, .bool (d.has a)]) ∧ y.fl = x.fl ∧ OwnM w' (w.heap.size + 2) y (d.put a n) ∧ Below w.heap.size w w' := by
  have C := hide (cc_new w x)
  have X := hide (hr.later (unhide C).bel)
  have M := hide (machineOf_any x d _ hs hz (unhide X))
  have HT := hide (has_t (d := d) (a := a))
  have S := hide hs
  have HL := hide hr.ml
  unfold Md.put
  obtain ⟨q, hq⟩ : ∃ q, d.has a = q := ⟨_, rfl⟩
  rw [hq] at HT ⊢
  have HQ := hide hq
  clear hr hs hz hq
  go_enter Try.func22, Try.ntmps22
  go_wp2_with (refine wpList_load_row rfl 38 _ rfl w.heap.size rfl 38 x.cs (0, 0) _ (unhide C).bx Try.underlying38 rfl (by kernel_rfl) ?_)
  refine (unhide M).mono ?_
  rintro e w1 ⟨y, rfl, fy, oy, hb⟩
  have FY := hide fy
  have O1 := hide (oy.base (C := w.heap.size + 2) (by have := (unhide C).sz; omega))
  have C1 := hide (((unhide C).later hb).later (below_new w1 (.cells (bigA (laidM d.m z256) y) 69)))
  have H1 := hide (has_any x d a (w1.alloc (.cells (bigA (laidM d.m z256) y) 69)) (unhide HL) (unhide S).1)
  rw [unhide HQ] at H1
  have G1 := hide (heap_alloc_last w1 (.cells (bigA (laidM d.m z256) y) 69))
  have Z1 := hide (Nat.le_trans (unhide C).sz hb.size)
  clear fy oy hb M C X
  go_wp2_with (first | (refine wpList_alloc60 rfl rfl ?_) | (refine wpList_store60 rfl _ _ rfl (laidM d.m z256) y (laidM_len z256_len) rfl rfl ?_) | (refine wpList_load_row rfl 38 _ rfl w.heap.size rfl 38 x.cs (0, 0) _ (unhide C1).bx Try.underlying38 rfl (by kernel_rfl) ?_))
  refine (unhide H1).mono ?_
  rintro e w2 ⟨rfl, hb⟩
  have C2 := hide ((unhide C1).later hb)
  have G2 := hide (row_lat (unhide G1) hb)
  have O2 := hide (((unhide O1).later (below_new w1 (.cells (bigA (laidM d.m z256) y) 69))).later hb)
  clear hb C1 G1 H1
  cases q
  · have A := hide (answer_any w1.heap.size (w.heap.size + 2) (laidM d.m z256) y d w2 (laidM_len z256_len) (unhide G2) (unhide O2) (own_ne (unhide O1).m (.inr (Nat.le_refl _))))
    go_wp2_with fail
    refine (unhide A).mono ?_
    rintro e w3 ⟨rfl, o3, g3⟩
    rw [back_same] at o3
    have C3 := hide ((unhide C2).pastR g3 (fun b e => ((unhide O2).m.lt e).1))
    have O3 := hide o3
    clear o3 g3 A
    go_wp2_with (refine wpList_store_row rfl 38 _ _ rfl (w.heap.size + 1) y.cs rfl rfl 38 zMv.cs (unhide C3).re (by kernel_rfl) rfl (Mv.cs_one _) ?_)
    refine bodyPost_ret (results_row2 (P := Try.prog) rfl _ _ (w.heap.size + 1) 38 y.cs (0, 0) _ rfl (setRow_heap w3 _ _ _ 38 _ (unhide C3).re) Try.underlying38 rfl (by kernel_rfl)) rfl ?_
    exact ⟨y, rfl, unhide FY, (unhide O3).row (by omega) _, below_setRow (unhide C3).bel (by omega) _⟩
  · obtain ⟨ta, tl⟩ := unhide HT (by trivial)
    obtain ⟨t0, t1, _⟩ := adB_t ta
    clear ta HT
    have W2 := hide (setWord_any w1.heap.size a n (laidM d.m z256) y w2 t0 (by omega) (laidM_len z256_len) (unhide G2))
    have TL := hide tl
    clear tl
    go_wp2_with fail
    refine (unhide W2).mono ?_
    rintro e w3 ⟨rfl, r3, g3⟩
    have G3 := hide r3
    have O3 := hide ((unhide O2).pastN (unhide O1) g3)
    have C3 := hide ((unhide C2).pastR g3 (fun b e => by cases e; exact unhide Z1))
    have A := hide (answer_any w1.heap.size (w.heap.size + 2) ((laidM d.m z256).set (a / 2).toNat (n % 65536)) y d w3 (by rw [List.length_set, laidM_len z256_len]) (unhide G3) (unhide O3) (own_ne (unhide O1).m (.inr (Nat.le_refl _))))
    rw [back_set d.m (a / 2).toNat (n % 65536) (by omega) (by have := unhide TL; omega)] at A
    clear r3 g3 W2 C2 O2 G2
    go_wp2_with fail
    refine (unhide A).mono ?_
    rintro e w4 ⟨rfl, o4, g4⟩
    have C4 := hide ((unhide C3).pastR g4 (fun b e => ((unhide O3).m.lt e).1))
    have O4 := hide o4
    clear o4 g4 A
    go_wp2_with (refine wpList_store_row rfl 38 _ _ rfl (w.heap.size + 1) y.cs rfl rfl 38 zMv.cs (unhide C4).re (by kernel_rfl) rfl (Mv.cs_one _) ?_)
    refine bodyPost_ret (results_row2 (P := Try.prog) rfl _ _ (w.heap.size + 1) 38 y.cs (0, 0) _ rfl (setRow_heap w4 _ _ _ 38 _ (unhide C4).re) Try.underlying38 rfl (by kernel_rfl)) rfl ?_
    exact ⟨y, rfl, unhide FY, (unhide O4).row (by omega) _, below_setRow (unhide C4).bel (by omega) _⟩
end Go.Proofs.Ytjpbjbnialehbaa

namespace Go.Proofs.Ytjpbjbnialehbaa
open Go.ChangeShapes Go.WideShapes Go.ChangeAt Go.RowKit
set_option linter.unusedVariables false
set_option maxRecDepth 8000
set_option linter.unusedSimpArgs false
theorem cm_copy0 (w : World) (x : Mv) : Cm w (((w.alloc (.cells x.cs 38)).alloc (.cells zMv.cs 38)).alloc (.cells x.cs 38)) 38 x x := by
  have z1 : (w.alloc (.cells x.cs 38)).heap.size = w.heap.size + 1 := by simp
  have z2 : ((w.alloc (.cells x.cs 38)).alloc (.cells zMv.cs 38)).heap.size = w.heap.size + 1 + 1 := by simp
  have a1 := row_lat (row_lat (heap_alloc_last w (.cells x.cs 38)) (below_new _ (.cells zMv.cs 38))) (below_new _ (.cells x.cs 38))
  have a2 := row_lat (heap_alloc_last (w.alloc (.cells x.cs 38)) (.cells zMv.cs 38)) (below_new _ (.cells x.cs 38))
  have a3 := heap_alloc_last ((w.alloc (.cells x.cs 38)).alloc (.cells zMv.cs 38)) (.cells x.cs 38)
  rw [z1] at a2
  rw [z2] at a3
  exact ⟨a1, a2, a3, (((Below.refl _ _).alloc (Nat.le_refl _) _).alloc (by omega) _).alloc (by omega) _, by simp⟩
theorem cm_copy (w : World) (x : Mv) : Cm w (((w.alloc (.cells x.cs 38)).alloc (.cells #[Value.slice none 0 0, Value.slice none 0 0, Value.bool false, Value.bool false, Value.bool false, Value.bool false, Value.slice none 0 0, Value.slice none 0 0, Value.int .i64 0] 38)).alloc (.cells x.cs 38)) 38 x x := cm_copy0 w x
theorem wpList_store_newG {P : Program} {ops : Array Oper} {rest : List Oper} {o : Oper} {a : Act} {w : World} {Q : Exit → Act → World → Prop} (hgd : o.guard = none) (ty : TypeId) (x y : Operand) (ho : o.op = .store ty x y)
    (cells : Array Value) (g : Nat) (hgz : w.heap.size = g) (hx : a.eval x = .pointer (some ⟨g, 0, none⟩)) (hy : a.eval y = .agg cells) (old : Array Value) (hi : (P.info? ty).map (·.size) = some cells.size)
    (hold : old.size = cells.size) (h1 : cells.all (·.oneCell') = true) (h : wpList P ops Q rest (a.put o.dst undef) (w.alloc (.cells cells ty))) : wpList P ops Q (o :: rest) a (w.alloc (.cells old ty)) := by
  subst hgz
  exact wpList_store_new hgd ty x y ho cells hx hy old hi hold h1 h
theorem Cm.past {w wr w' : World} {tb : TypeId} {x o : Mv} {row : Option Nat} (h : Cm w wr tb x o) (hg : wr.grownBy w' row) (hr : ∀ g, row = some g → w.heap.size + 3 ≤ g) : Cm w w' tb x o :=
  ⟨(hg.block _ (row_lt h.bx) (fun e => by have := hr _ e.symm; omega)).trans h.bx, (hg.block _ (row_lt h.re) (fun e => by have := hr _ e.symm; omega)).trans h.re, (hg.block _ (row_lt h.out) (fun e => by have := hr _ e.symm; omega)).trans h.out, h.bel.grown hg h.bel.size (fun k e => by have := hr _ e; omega), Nat.le_trans h.sz hg.size⟩
theorem RdN.pastR {w w' : World} {a : Option Addr} {ns : List Int} {row : Option Nat} (h : RdN w a ns) (hg : w.grownBy w' row) (hne : ∀ b, row = some b → ns = [] ∨ ∀ ad, a = some ad → ad.block ≠ b) : RdN w' a ns := by
  rcases h with h | ⟨c, off, rfl, hlt, hc⟩
  · exact .inl h
  · by_cases h0 : ns = []
    · exact .inl h0
    exact .inr ⟨c, off, rfl, Nat.lt_of_lt_of_le hlt hg.size, fun i hi => (World.cell?_of_block (w := w) (hg.block c hlt (fun e => by
      rcases hne c e.symm with h1 | h1
      · exact h0 h1
      · exact h1 _ rfl rfl))).trans (hc i hi)⟩
/-- What came in reads on while rows made behind it are written. -/
theorem RdM.pastR {w wr w' : World} {x : Mv} {d : Md} {row : Option Nat} (h : RdM wr x d) (hw : RdM w x d) (hg : wr.grownBy w' row) (hr : ∀ g, row = some g → w.heap.size ≤ g) : RdM w' x d := by
  have key : ∀ {a : Option Addr} {ns : List Int}, RdN w a ns → ∀ b, row = some b → ns = [] ∨ ∀ ad, a = some ad → ad.block ≠ b := fun hr' b e => by
    rcases hr' with h0 | ⟨b', off, rfl, hb', _⟩
    · exact .inl h0
    · exact .inr fun ad e' => by cases e'; have := hr b e; show b' ≠ b; omega
  exact ⟨h.m.pastR hg (key hw.m), h.r.pastR hg (key hw.r), h.i.pastR hg (key hw.i), h.o.pastR hg (key hw.o), h.ml, h.rl, h.il, h.ol⟩
/-- A list of no element, made for a copy. -/
theorem ownN_new (w : World) (B g : Nat) (hg : w.heap.size = g) (hB : B ≤ w.heap.size) : OwnN (w.alloc (.cells #[] 3)) B (.slice (some ⟨g, 0, none⟩) 0 0) [] := by
  subst hg
  exact (ownN_empty w).base hB
set_option maxHeartbeats 4000000 in
theorem copyS_any (x : Mv) (d : Md) (w : World) (hs : x.small) (hz : x.nz) (hr : RdM w x d) : Calls Try.prog 49 #[.agg x.cs] w fun e w' => ∃ y : Mv, e = .returned (.agg y.cs) ∧ y.fl = x.fl ∧ OwnM w' (w.heap.size + 3) y d ∧ Below w.heap.size w w' := by
  obtain ⟨s0, s1, s2, s3⟩ := hs
  have NZ := hide hz
  have C := hide (cm_copy w x)
  have HR := hide hr
  have R := hide (hr.later (unhide C).bel)
  have R0 : Hid (((w.alloc (.cells x.cs 38)).alloc (.cells #[Value.slice none 0 0, Value.slice none 0 0, Value.bool false, Value.bool false, Value.bool false, Value.bool false, Value.slice none 0 0, Value.slice none 0 0, Value.int .i64 0] 38)).heap[w.heap.size]? = some (.cells x.cs 38 (0, 0))) := hide (row_lat (heap_alloc_last w (.cells x.cs 38)) (below_new _ (.cells #[Value.slice none 0 0, Value.slice none 0 0, Value.bool false, Value.bool false, Value.bool false, Value.bool false, Value.slice none 0 0, Value.slice none 0 0, Value.int .i64 0] 38)))
  clear hr hz
  go_enter Try.func49, Try.ntmps49
  have E := hide (below_new (((w.alloc (.cells x.cs 38)).alloc (.cells #[Value.slice none 0 0, Value.slice none 0 0, Value.bool false, Value.bool false, Value.bool false, Value.bool false, Value.slice none 0 0, Value.slice none 0 0, Value.int .i64 0] 38)).alloc (.cells x.cs 38)) (.cells #[] 3))
  have SZ : Hid ((((w.alloc (.cells x.cs 38)).alloc (.cells #[Value.slice none 0 0, Value.slice none 0 0, Value.bool false, Value.bool false, Value.bool false, Value.bool false, Value.slice none 0 0, Value.slice none 0 0, Value.int .i64 0] 38)).alloc (.cells x.cs 38)).heap.size = w.heap.size + 1 + 1 + 1) := hide (by simp)
  have q0 := row_m ((unhide C).later (unhide E)).bx
  have STAGE0 := hide trivial
  go_wp2_with (first
    | (have hst := STAGE0; refine wpList_load_row rfl 38 _ rfl w.heap.size rfl 38 x.cs (0, 0) _ (unhide R0) Try.underlying38 rfl (by kernel_rfl) ?_)
    | (have hst := STAGE0; refine wpList_store_newG rfl 38 _ _ rfl x.cs (w.heap.size + 1 + 1) (by simp) rfl rfl _ (by kernel_rfl) rfl (Mv.cs_one _) ?_)
    | (at_builtin; have hst := STAGE0; clear hst STAGE0; go_must (
      refine wpList_app rfl _ _ rfl (w.heap.size + 1 + 1 + 1) (.slice (some ⟨w.heap.size + 1 + 1 + 1, 0, none⟩) 0 0) [] rfl (ownN_new _ _ _ (unhide SZ) (Nat.le_of_eq (unhide SZ).symm)) x.m d.m rfl ((unhide R).later (unhide E)).m (unhide R).ml (unhide NZ).1 (by simp; omega) (Nat.le_trans (Nat.le_of_eq (unhide SZ).symm) (unhide E).size) ?_
      intro v w0 ho hg
      rw [List.nil_append] at ho
      obtain ⟨a0, n0, c0, rfl⟩ : ∃ a n c, v = .slice a n c := (by obtain ⟨a, c, e, _⟩ := ho.rd; exact ⟨_, _, _, e⟩)
      have hgr := fun b (e : (Value.slice (some ⟨w.heap.size + 1 + 1 + 1, 0, none⟩) 0 0).ownBlock = some b) => (show w.heap.size + 3 ≤ b by simp [Value.ownBlock] at e; have := unhide SZ; have := (unhide C).sz; omega)
      have Cn := hide (((unhide C).later (unhide E)).past hg hgr)
      have Rn := hide (((unhide R).later (unhide E)).pastR (unhide HR) hg (fun b e => by have := hgr b e; omega))
      have o0 := row_m (unhide Cn).out
      have f0 := row_fz (unhide Cn).out 0
      have O0 := hide (OwnN.base ho (B' := w.heap.size + 3) (by have := unhide SZ; have := (unhide C).sz; omega))
      clear ho hg hgr C R E SZ q0
      have C := hide ((unhide Cn).put 0 (.slice a0 n0 c0) (⟨⟨a0, n0, c0⟩, x.r, x.n, x.z, x.v, x.c, x.i, x.o, x.st⟩ : Mv) rfl)
      have R := hide ((unhide Rn).setB (unhide HR) (by omega : w.heap.size ≤ w.heap.size + 1 + 1) 0 (.slice a0 n0 c0))
      have On := hide ((unhide O0).put (b := w.heap.size + 1 + 1) (j := 0) (u := .slice a0 n0 c0) (by omega))
      clear O0
      have O0 := hide (unhide On)
      clear On
      clear Cn Rn
      have E := hide (below_new (w0.setCell ⟨w.heap.size + 1 + 1, 0, none⟩ (.slice a0 n0 c0)) (.cells #[] 3))
      have SZ : Hid ((w0.setCell ⟨w.heap.size + 1 + 1, 0, none⟩ (.slice a0 n0 c0)).heap.size = w0.heap.size) := hide (by simp)
      have q1 := row_r ((unhide C).later (unhide E)).bx
      have STAGE1 := hide trivial
      skip))
    | (at_builtin; have hst := STAGE1; clear hst STAGE1; go_must (
      refine wpList_app rfl _ _ rfl (w0.heap.size) (.slice (some ⟨w0.heap.size, 0, none⟩) 0 0) [] rfl (ownN_new _ _ _ (unhide SZ) (Nat.le_of_eq (unhide SZ).symm)) x.r d.r rfl ((unhide R).later (unhide E)).r (unhide R).rl (unhide NZ).2.1 (by simp; omega) (Nat.le_trans (Nat.le_of_eq (unhide SZ).symm) (unhide E).size) ?_
      intro v w1 ho hg
      rw [List.nil_append] at ho
      obtain ⟨a1, n1, c1, rfl⟩ : ∃ a n c, v = .slice a n c := (by obtain ⟨a, c, e, _⟩ := ho.rd; exact ⟨_, _, _, e⟩)
      have hgr := fun b (e : (Value.slice (some ⟨w0.heap.size, 0, none⟩) 0 0).ownBlock = some b) => (show w.heap.size + 3 ≤ b by simp [Value.ownBlock] at e; have := unhide SZ; have := (unhide C).sz; omega)
      have Cn := hide (((unhide C).later (unhide E)).past hg hgr)
      have Rn := hide (((unhide R).later (unhide E)).pastR (unhide HR) hg (fun b e => by have := hgr b e; omega))
      have o1 := row_r (unhide Cn).out
      have f1 := row_fz (unhide Cn).out 1
      have O1 := hide (OwnN.base ho (B' := w.heap.size + 3) (by have := unhide SZ; have := (unhide C).sz; omega))
      have On := hide ((((unhide O0).later (unhide E)).keep (fun g hv hl => hg.block g hl (fun e => by have := ((unhide O0).lt hv).2; have := unhide SZ; simp [Value.ownBlock] at e; omega))))
      have A01 : Hid (Ap ⟨a0, n0, c0⟩ ⟨a1, n1, c1⟩) := hide (fun g e1 e2 => by
        have := ((unhide O0).lt e1).2
        have := (ho.lt e2).1
        have := unhide SZ
        omega)
      clear O0
      have O0 := hide (unhide On)
      clear On
      clear ho hg hgr C R E SZ q1
      have C := hide ((unhide Cn).put 1 (.slice a1 n1 c1) (⟨⟨a0, n0, c0⟩, ⟨a1, n1, c1⟩, x.n, x.z, x.v, x.c, x.i, x.o, x.st⟩ : Mv) rfl)
      have R := hide ((unhide Rn).setB (unhide HR) (by omega : w.heap.size ≤ w.heap.size + 1 + 1) 1 (.slice a1 n1 c1))
      have On := hide ((unhide O0).put (b := w.heap.size + 1 + 1) (j := 1) (u := .slice a1 n1 c1) (by omega))
      clear O0
      have O0 := hide (unhide On)
      clear On
      have On := hide ((unhide O1).put (b := w.heap.size + 1 + 1) (j := 1) (u := .slice a1 n1 c1) (by omega))
      clear O1
      have O1 := hide (unhide On)
      clear On
      clear Cn Rn
      have E := hide (below_new (w1.setCell ⟨w.heap.size + 1 + 1, 1, none⟩ (.slice a1 n1 c1)) (.cells #[] 3))
      have SZ : Hid ((w1.setCell ⟨w.heap.size + 1 + 1, 1, none⟩ (.slice a1 n1 c1)).heap.size = w1.heap.size) := hide (by simp)
      have q2 := row_i ((unhide C).later (unhide E)).bx
      have STAGE2 := hide trivial
      skip))
    | (at_builtin; have hst := STAGE2; clear hst STAGE2; go_must (
      refine wpList_app rfl _ _ rfl (w1.heap.size) (.slice (some ⟨w1.heap.size, 0, none⟩) 0 0) [] rfl (ownN_new _ _ _ (unhide SZ) (Nat.le_of_eq (unhide SZ).symm)) x.i d.i rfl ((unhide R).later (unhide E)).i (unhide R).il (unhide NZ).2.2.1 (by simp; omega) (Nat.le_trans (Nat.le_of_eq (unhide SZ).symm) (unhide E).size) ?_
      intro v w2 ho hg
      rw [List.nil_append] at ho
      obtain ⟨a2, n2, c2, rfl⟩ : ∃ a n c, v = .slice a n c := (by obtain ⟨a, c, e, _⟩ := ho.rd; exact ⟨_, _, _, e⟩)
      have hgr := fun b (e : (Value.slice (some ⟨w1.heap.size, 0, none⟩) 0 0).ownBlock = some b) => (show w.heap.size + 3 ≤ b by simp [Value.ownBlock] at e; have := unhide SZ; have := (unhide C).sz; omega)
      have Cn := hide (((unhide C).later (unhide E)).past hg hgr)
      have Rn := hide (((unhide R).later (unhide E)).pastR (unhide HR) hg (fun b e => by have := hgr b e; omega))
      have o6 := row_i (unhide Cn).out
      have f6 := row_fz (unhide Cn).out 6
      have O2 := hide (OwnN.base ho (B' := w.heap.size + 3) (by have := unhide SZ; have := (unhide C).sz; omega))
      have On := hide ((((unhide O0).later (unhide E)).keep (fun g hv hl => hg.block g hl (fun e => by have := ((unhide O0).lt hv).2; have := unhide SZ; simp [Value.ownBlock] at e; omega))))
      have A02 : Hid (Ap ⟨a0, n0, c0⟩ ⟨a2, n2, c2⟩) := hide (fun g e1 e2 => by
        have := ((unhide O0).lt e1).2
        have := (ho.lt e2).1
        have := unhide SZ
        omega)
      clear O0
      have O0 := hide (unhide On)
      clear On
      have On := hide ((((unhide O1).later (unhide E)).keep (fun g hv hl => hg.block g hl (fun e => by have := ((unhide O1).lt hv).2; have := unhide SZ; simp [Value.ownBlock] at e; omega))))
      have A12 : Hid (Ap ⟨a1, n1, c1⟩ ⟨a2, n2, c2⟩) := hide (fun g e1 e2 => by
        have := ((unhide O1).lt e1).2
        have := (ho.lt e2).1
        have := unhide SZ
        omega)
      clear O1
      have O1 := hide (unhide On)
      clear On
      clear ho hg hgr C R E SZ q2
      have C := hide ((unhide Cn).put 6 (.slice a2 n2 c2) (⟨⟨a0, n0, c0⟩, ⟨a1, n1, c1⟩, x.n, x.z, x.v, x.c, ⟨a2, n2, c2⟩, x.o, x.st⟩ : Mv) rfl)
      have R := hide ((unhide Rn).setB (unhide HR) (by omega : w.heap.size ≤ w.heap.size + 1 + 1) 6 (.slice a2 n2 c2))
      have On := hide ((unhide O0).put (b := w.heap.size + 1 + 1) (j := 6) (u := .slice a2 n2 c2) (by omega))
      clear O0
      have O0 := hide (unhide On)
      clear On
      have On := hide ((unhide O1).put (b := w.heap.size + 1 + 1) (j := 6) (u := .slice a2 n2 c2) (by omega))
      clear O1
      have O1 := hide (unhide On)
      clear On
      have On := hide ((unhide O2).put (b := w.heap.size + 1 + 1) (j := 6) (u := .slice a2 n2 c2) (by omega))
      clear O2
      have O2 := hide (unhide On)
      clear On
      clear Cn Rn
      have E := hide (below_new (w2.setCell ⟨w.heap.size + 1 + 1, 6, none⟩ (.slice a2 n2 c2)) (.cells #[] 3))
      have SZ : Hid ((w2.setCell ⟨w.heap.size + 1 + 1, 6, none⟩ (.slice a2 n2 c2)).heap.size = w2.heap.size) := hide (by simp)
      have q3 := row_o ((unhide C).later (unhide E)).bx
      have STAGE3 := hide trivial
      skip))
    | (at_builtin; have hst := STAGE3; clear hst STAGE3; go_must (
      refine wpList_app rfl _ _ rfl (w2.heap.size) (.slice (some ⟨w2.heap.size, 0, none⟩) 0 0) [] rfl (ownN_new _ _ _ (unhide SZ) (Nat.le_of_eq (unhide SZ).symm)) x.o d.o rfl ((unhide R).later (unhide E)).o (unhide R).ol (unhide NZ).2.2.2 (by simp; omega) (Nat.le_trans (Nat.le_of_eq (unhide SZ).symm) (unhide E).size) ?_
      intro v w3 ho hg
      rw [List.nil_append] at ho
      obtain ⟨a3, n3, c3, rfl⟩ : ∃ a n c, v = .slice a n c := (by obtain ⟨a, c, e, _⟩ := ho.rd; exact ⟨_, _, _, e⟩)
      have hgr := fun b (e : (Value.slice (some ⟨w2.heap.size, 0, none⟩) 0 0).ownBlock = some b) => (show w.heap.size + 3 ≤ b by simp [Value.ownBlock] at e; have := unhide SZ; have := (unhide C).sz; omega)
      have Cn := hide (((unhide C).later (unhide E)).past hg hgr)
      have Rn := hide (((unhide R).later (unhide E)).pastR (unhide HR) hg (fun b e => by have := hgr b e; omega))
      have o7 := row_o (unhide Cn).out
      have f7 := row_fz (unhide Cn).out 7
      have O3 := hide (OwnN.base ho (B' := w.heap.size + 3) (by have := unhide SZ; have := (unhide C).sz; omega))
      have On := hide ((((unhide O0).later (unhide E)).keep (fun g hv hl => hg.block g hl (fun e => by have := ((unhide O0).lt hv).2; have := unhide SZ; simp [Value.ownBlock] at e; omega))))
      have A03 : Hid (Ap ⟨a0, n0, c0⟩ ⟨a3, n3, c3⟩) := hide (fun g e1 e2 => by
        have := ((unhide O0).lt e1).2
        have := (ho.lt e2).1
        have := unhide SZ
        omega)
      clear O0
      have O0 := hide (unhide On)
      clear On
      have On := hide ((((unhide O1).later (unhide E)).keep (fun g hv hl => hg.block g hl (fun e => by have := ((unhide O1).lt hv).2; have := unhide SZ; simp [Value.ownBlock] at e; omega))))
      have A13 : Hid (Ap ⟨a1, n1, c1⟩ ⟨a3, n3, c3⟩) := hide (fun g e1 e2 => by
        have := ((unhide O1).lt e1).2
        have := (ho.lt e2).1
        have := unhide SZ
        omega)
      clear O1
      have O1 := hide (unhide On)
      clear On
      have On := hide ((((unhide O2).later (unhide E)).keep (fun g hv hl => hg.block g hl (fun e => by have := ((unhide O2).lt hv).2; have := unhide SZ; simp [Value.ownBlock] at e; omega))))
      have A23 : Hid (Ap ⟨a2, n2, c2⟩ ⟨a3, n3, c3⟩) := hide (fun g e1 e2 => by
        have := ((unhide O2).lt e1).2
        have := (ho.lt e2).1
        have := unhide SZ
        omega)
      clear O2
      have O2 := hide (unhide On)
      clear On
      clear ho hg hgr C R E SZ q3
      have C := hide ((unhide Cn).put 7 (.slice a3 n3 c3) (⟨⟨a0, n0, c0⟩, ⟨a1, n1, c1⟩, x.n, x.z, x.v, x.c, ⟨a2, n2, c2⟩, ⟨a3, n3, c3⟩, x.st⟩ : Mv) rfl)
      have R := hide ((unhide Rn).setB (unhide HR) (by omega : w.heap.size ≤ w.heap.size + 1 + 1) 7 (.slice a3 n3 c3))
      have On := hide ((unhide O0).put (b := w.heap.size + 1 + 1) (j := 7) (u := .slice a3 n3 c3) (by omega))
      clear O0
      have O0 := hide (unhide On)
      clear On
      have On := hide ((unhide O1).put (b := w.heap.size + 1 + 1) (j := 7) (u := .slice a3 n3 c3) (by omega))
      clear O1
      have O1 := hide (unhide On)
      clear On
      have On := hide ((unhide O2).put (b := w.heap.size + 1 + 1) (j := 7) (u := .slice a3 n3 c3) (by omega))
      clear O2
      have O2 := hide (unhide On)
      clear On
      have On := hide ((unhide O3).put (b := w.heap.size + 1 + 1) (j := 7) (u := .slice a3 n3 c3) (by omega))
      clear O3
      have O3 := hide (unhide On)
      clear On
      clear Cn Rn
      skip))
    | (refine wpList_load_row rfl 38 _ rfl (w.heap.size + 1 + 1) rfl 38 (Mv.cs (⟨⟨a0, n0, c0⟩, ⟨a1, n1, c1⟩, x.n, x.z, x.v, x.c, ⟨a2, n2, c2⟩, ⟨a3, n3, c3⟩, x.st⟩ : Mv)) (0, 0) _ (unhide C).out Try.underlying38 rfl (by kernel_rfl) ?_)
    | (refine wpList_store_row rfl 38 _ _ rfl (w.heap.size + 1) (Mv.cs (⟨⟨a0, n0, c0⟩, ⟨a1, n1, c1⟩, x.n, x.z, x.v, x.c, ⟨a2, n2, c2⟩, ⟨a3, n3, c3⟩, x.st⟩ : Mv)) rfl rfl 38 zMv.cs (unhide C).re (by kernel_rfl) rfl (Mv.cs_one _) ?_))
  refine bodyPost_ret (results_cell_row (P := Try.prog) rfl _ _ (w.heap.size + 1) 38 (Mv.cs (⟨⟨a0, n0, c0⟩, ⟨a1, n1, c1⟩, x.n, x.z, x.v, x.c, ⟨a2, n2, c2⟩, ⟨a3, n3, c3⟩, x.st⟩ : Mv)) (0, 0) _ rfl (unhide C).done.re Try.underlying38 rfl (by kernel_rfl)) rfl ?_
  exact ⟨(⟨⟨a0, n0, c0⟩, ⟨a1, n1, c1⟩, x.n, x.z, x.v, x.c, ⟨a2, n2, c2⟩, ⟨a3, n3, c3⟩, x.st⟩ : Mv), rfl, rfl, ⟨(unhide O0).row (by omega) _, (unhide O1).row (by omega) _, (unhide O2).row (by omega) _, (unhide O3).row (by omega) _, unhide A01, unhide A02, unhide A03, unhide A12, unhide A13, unhide A23⟩, (unhide C).done.bel⟩
end Go.Proofs.Ytjpbjbnialehbaa

namespace Go.Proofs.Ytjpbjbnialehbaa
open Go.ChangeShapes Go.WideShapes Go.ChangeAt Go.RowKit
set_option linter.unusedVariables false
set_option maxRecDepth 8000
set_option linter.unusedSimpArgs false
/-- One number of an owned list written. -/
theorem OwnN.set {w : World} {B b n cap : Nat} {ns : List Int} (h : OwnN w B (.slice (some ⟨b, 0, none⟩) n cap) ns) (k : Nat) (v : Int) (hk : k < ns.length) :
    OwnN (w.setCell ⟨b, k, none⟩ (.int .i64 v)) B (.slice (some ⟨b, 0, none⟩) n cap) (ns.set k v) ∧ w.grownBy (w.setCell ⟨b, k, none⟩ (.int .i64 v)) (some b) := by
  have hl : ns.length = n := by obtain ⟨a, c, e, _⟩ := h.rd; simp at e; omega
  subst hl
  have st := World.ownsRow.stored h k (.int .i64 v)
  refine ⟨?_, st.2⟩
  have e : cellsN (ns.set k v) = (cellsN ns).set k (.int .i64 v) := by unfold cellsN; rw [List.map_set]
  unfold OwnN
  rw [List.length_set, e]
  exact st.1
theorem OwnN.cellAt {w : World} {B b n cap : Nat} {ns : List Int} (h : OwnN w B (.slice (some ⟨b, 0, none⟩) n cap) ns) (k : Nat) (hk : k < ns.length) : w.cell? ⟨b, k, none⟩ = some (.int .i64 (nAt ns k)) ∧ w.frozen? ⟨b, k, none⟩ = false := by
  have hl : ns.length = n := by obtain ⟨a, c, e, _⟩ := h.rd; simp at e; omega
  subst hl
  refine ⟨?_, World.ownsRow.frozenAt h k⟩
  rw [World.ownsRow.cellAt h k (by omega)]
  simp only [cellsN, List.getElem?_map, List.getElem?_eq_getElem hk, Option.map_some, nAt, List.getD_eq_getElem?_getD, Option.getD_some]
set_option maxHeartbeats 2000000 in
theorem writeS_any (x : Mv) (d : Md) (a n : Int) (w : World) (hs : x.small) (hz : x.nz) (hr : RdM w x d) : Calls Try.prog 23 #[.agg x.cs, .int .i64 a, .int .i64 n] w fun e w' => ∃ y : Mv, e = .returned (.tuple #[.agg y.cs, .bool (d.has a)]) ∧ y.fl = x.fl ∧ OwnM w' (w.heap.size + 2) y (d.put a n) ∧ Below w.heap.size w w' := by
  have C := hide (cc_new w x)
  have X := hide (hr.later (unhide C).bel)
  have M := hide (copyS_any x d _ hs hz (unhide X))
  have HT := hide (has_t (d := d) (a := a))
  have S := hide hs
  unfold Md.put
  obtain ⟨q, hq⟩ : ∃ q, d.has a = q := ⟨_, rfl⟩
  rw [hq] at HT ⊢
  have HQ := hide hq
  clear hr hs hz hq
  go_enter Try.func23, Try.ntmps23
  go_wp2_with (refine wpList_load_row rfl 38 _ rfl w.heap.size rfl 38 x.cs (0, 0) _ (unhide C).bx Try.underlying38 rfl (by kernel_rfl) ?_)
  refine (unhide M).mono ?_
  rintro e w1 ⟨y, rfl, fy, oy, hb⟩
  have FY := hide fy
  have O1 := hide (oy.base (C := w.heap.size + 2) (by have := (unhide C).sz; omega))
  have C1 := hide (((unhide C).later hb).later (below_new w1 (.cells y.cs 38)))
  have X1 := hide (((unhide X).later hb).later (below_new w1 (.cells y.cs 38)))
  have H1 := hide (readS_any x d a (w1.alloc (.cells y.cs 38)) (unhide S) (unhide X1))
  rw [unhide HQ] at H1
  have G1 := hide (heap_alloc_last w1 (.cells y.cs 38))
  have Z1 := hide (Nat.le_trans (unhide C).sz hb.size)
  clear fy oy hb M C X
  go_wp2_with (first | (refine wpList_store_new rfl 38 _ _ rfl y.cs rfl rfl _ (by kernel_rfl) rfl (Mv.cs_one _) ?_) | (refine wpList_load_row rfl 38 _ rfl w.heap.size rfl 38 x.cs (0, 0) _ (unhide C1).bx Try.underlying38 rfl (by kernel_rfl) ?_))
  refine (unhide H1).mono ?_
  rintro e w2 ⟨rfl, hb⟩
  have C2 := hide ((unhide C1).later hb)
  have G2 := hide (row_lat (unhide G1) hb)
  have O2 := hide (((unhide O1).later (below_new w1 (.cells y.cs 38))).later hb)
  clear hb C1 G1 H1 X1
  cases q
  · go_wp2_with (first | (refine wpList_load_row rfl 38 _ rfl w1.heap.size rfl 38 y.cs (0, 0) _ (unhide G2) Try.underlying38 rfl (by kernel_rfl) ?_) | (refine wpList_store_row rfl 38 _ _ rfl (w.heap.size + 1) y.cs rfl rfl 38 zMv.cs (unhide C2).re (by kernel_rfl) rfl (Mv.cs_one _) ?_))
    refine bodyPost_ret (results_row2 (P := Try.prog) rfl _ _ (w.heap.size + 1) 38 y.cs (0, 0) _ rfl (setRow_heap w2 _ _ _ 38 _ (unhide C2).re) Try.underlying38 rfl (by kernel_rfl)) rfl ?_
    exact ⟨y, rfl, unhide FY, (unhide O2).row (by omega) _, below_setRow (unhide C2).bel (by omega) _⟩
  · obtain ⟨ta, tl⟩ := unhide HT (by trivial)
    obtain ⟨t0, t1, _⟩ := adB_t ta
    obtain ⟨k, hk⟩ := Int.eq_ofNat_of_zero_le (show 0 ≤ a / 2 by omega)
    have hkl : k < d.m.length := by omega
    have hml := (unhide O2).m.len
    obtain ⟨gm, hgm⟩ : ∃ gm, y.m.a = some ⟨gm, 0, none⟩ := by
      rcases (unhide O2).m.form with ⟨_, h0⟩ | ⟨g, cap, e, _⟩
      · rw [h0] at hkl; simp at hkl
      · unfold Sl.v at e; simp at e; exact ⟨g, e.1⟩
    have hmv : y.m.v = .slice (some ⟨gm, 0, none⟩) y.m.n y.m.c := by unfold Sl.v; rw [hgm]
    have o2 := (unhide O2).m
    rw [hmv] at o2
    have o2d := o2.later (below_drew (w := w2))
    have cA := hide (o2d.cellAt k hkl)
    have sA := o2d.set k (n % 65536) hkl
    have gA : w2.drew.grownBy (w2.drew.setCell ⟨gm, k, none⟩ (.int .i64 (n % 65536))) y.m.v.ownBlock := by rw [hmv]; exact sA.2
    have O3 := hide (((unhide O2).later (below_drew (w := w2))).putM gA (by rw [hmv]; exact sA.1))
    have gmB := (o2.lt (g := gm) rfl).1
    have gm1 : gm < w1.heap.size := by
      have := (unhide O1).m
      rw [hmv] at this
      exact (this.lt (g := gm) rfl).2
    have C3 := hide (((unhide C2).later (below_drew (w := w2))).pastR sA.2 (fun b e => by cases e; exact gmB))
    have G3 := hide ((sA.2.block w1.heap.size (row_lt (row_lat (unhide G2) (below_drew (w := w2)))) (by simp; omega)).trans (row_lat (unhide G2) (below_drew (w := w2))))
    have D0 : Hid (w2.drew.cell? ⟨w1.heap.size, 0, none⟩ = some (.slice (some ⟨gm, 0, none⟩) y.m.n y.m.c)) := hide (by rw [← hgm]; exact row_m (row_lat (unhide G2) (below_drew (w := w2))))
    have HKK := hide (show (a / 2).toNat = k by omega)
    have GM := hide hgm
    have HQ2 := hide (quo2 t0 (by omega) hk)
    have WR := hide (fun w => wrapS_any n w)
    have kn : (k : Int) < (y.m.n : Int) := by omega
    have kn0 : k < y.m.n := by omega
    obtain ⟨q, hq⟩ : ∃ q, n % 65536 = q := ⟨_, rfl⟩
    rw [hq] at O3 C3 G3 WR
    have HQQ := hide hq
    clear hq sA gA o2 o2d hmv hml ta HT C2 O2 G2 HQ tl hk hgm gmB gm1 hkl O1
    go_wp2_with fail
    refine wp_region_held_drew (S := fun w' => w'.cell? ⟨w1.heap.size, 0, none⟩ = some (.slice (some ⟨gm, 0, none⟩) y.m.n y.m.c)) (by kernel_rfl) (unhide D0) (fun hS => ?_)
    have HS := hide hS
    clear hS
    refine wpAnyH_take (i := 0) (v := .pointer (some ⟨w1.heap.size, 0, none⟩)) rfl (by kernel_rfl) (by kernel_rfl) (by kernel_rfl) (fun _ _ _ h => h) (Or.inl ⟨by rfl, fun w hc => ?_⟩) (unhide HS) ?_
    · clear hc; go_simp
    go_simp
    refine wpAnyH_take (i := 1) (v := .slice (some ⟨gm, 0, none⟩) y.m.n y.m.c) rfl (by kernel_rfl) (by kernel_rfl) (by kernel_rfl) (fun _ _ _ h => h) (Or.inl ⟨by rfl, fun w hc => ?_⟩) (unhide HS) ?_
    · go_simp
    go_simp
    refine wpAnyH_take (i := 2) (v := .int .i64 a) rfl (by kernel_rfl) (by kernel_rfl) (by kernel_rfl) (fun _ _ _ h => h) (Or.inl ⟨by rfl, fun w hc => ?_⟩) (unhide HS) ?_
    · clear hc; go_simp
    go_simp
    refine wpAnyH_take (i := 3) (v := .int .i64 (k : Int)) rfl (by kernel_rfl) (by kernel_rfl) (by kernel_rfl) (fun _ _ _ h => h) (Or.inl ⟨by rfl, fun w hc => ?_⟩) (unhide HS) ?_
    · clear hc; have hq2 := unhide HQ2; go_simp
    go_simp
    refine wpAnyH_take (i := 4) (v := .int .i64 n) rfl (by kernel_rfl) (by kernel_rfl) (by kernel_rfl) (fun _ _ _ h => h) (Or.inl ⟨by rfl, fun w hc => ?_⟩) (unhide HS) ?_
    · clear hc; go_simp
    go_simp
    refine wpAnyH_ready (rs := [5]) (by kernel_rfl) (by simp) ?_
    refine AllReadyH.cons rfl (fun K hK => ?_) AllReadyH.nil
    go_simp
    refine (unhide WR _).mono ?_
    rintro e w' ⟨rfl, hw'⟩
    rw [hw']
    clear hw' w'
    refine hK.out _ _ (unhide D0) (fun _ => ?_)
    clear hK K
    refine wpAnyH_take (i := 6) (v := .pointer (some ⟨gm, k, none⟩)) rfl (by kernel_rfl) (by kernel_rfl) (by kernel_rfl) (fun _ _ _ h => h) (Or.inl ⟨by rfl, fun w hc => ?_⟩) (unhide HS) ?_
    · clear hc; go_simp
    go_simp
    refine wpAnyH_ready (rs := [7]) (by kernel_rfl) (by simp) ?_
    refine AllReadyH.cons rfl (fun K hK => ?_) AllReadyH.nil
    obtain ⟨cA1, cA2⟩ := unhide cA
    go_simp
    refine hK.out _ _ ((row_m (unhide G3)).trans (by rw [unhide GM])) (fun _ => ?_)
    clear hK K
    refine wpAnyH_done (by kernel_rfl) ?_ _
    go_wp2_with (first | (refine wpList_load_row rfl 38 _ rfl w1.heap.size rfl 38 y.cs (0, 0) _ (unhide G3) Try.underlying38 rfl (by kernel_rfl) ?_) | (refine wpList_store_row rfl 38 _ _ rfl (w.heap.size + 1) y.cs rfl rfl 38 zMv.cs (unhide C3).re (by kernel_rfl) rfl (Mv.cs_one _) ?_))
    refine bodyPost_ret (results_row2 (P := Try.prog) rfl _ _ (w.heap.size + 1) 38 y.cs (0, 0) _ rfl (setRow_heap _ _ _ _ 38 _ (unhide C3).re) Try.underlying38 rfl (by kernel_rfl)) rfl ?_
    refine ⟨y, rfl, unhide FY, ?_, below_setRow (unhide C3).bel (by omega) _⟩
    rw [unhide HKK, unhide HQQ]
    exact (unhide O3).row (by omega) _
end Go.Proofs.Ytjpbjbnialehbaa

namespace Go.Proofs.Ytjpbjbnialehbaa
open Go.ChangeShapes Go.WideShapes Go.ChangeAt Go.RowKit
set_option linter.unusedVariables false
set_option maxRecDepth 8000
set_option linter.unusedSimpArgs false
def Md.small (d : Md) : Prop := d.m.length ≤ 1048576 ∧ d.r.length ≤ 1048576 ∧ d.i.length ≤ 1048576 ∧ d.o.length ≤ 1048576
/-- The blocks that a machine's lists lie in. -/
def Mv.at (x : Mv) (b : Nat) : Prop := x.m.v.ownBlock = some b ∨ x.r.v.ownBlock = some b ∨ x.i.v.ownBlock = some b ∨ x.o.v.ownBlock = some b
/-- Nothing has turned but what lies in the machine's lists. -/
structure Tch (w w' : World) (x : Mv) : Prop where
  os : w'.os = w.os
  tape : w'.tape = w.tape
  output : w'.output = w.output
  size : w.heap.size ≤ w'.heap.size
  block : ∀ k, k < w.heap.size → ¬ x.at k → w'.heap[k]? = w.heap[k]?
section
variable {w w' w1 : World} {B : Nat} {x y : Mv} {d : Md} {s : Sl} {row : Option Nat}
theorem OwnM.lo (h : OwnM w B x d) {b : Nat} (hb : x.at b) : B ≤ b ∧ b < w.heap.size := by
  rcases hb with hb | hb | hb | hb
  · exact h.m.lt hb
  · exact h.r.lt hb
  · exact h.i.lt hb
  · exact h.o.lt hb
theorem Tch.below (h : Below w.heap.size w w') : Tch w w' x := ⟨h.os, h.tape, h.output, h.size, fun k hk _ => h.block k hk⟩
theorem Tch.grown (h : Tch w w1 x) (hg : w1.grownBy w' row) (hr : ∀ b, row = some b → x.at b) : Tch w w' x :=
  ⟨hg.os.trans h.os, hg.tape.trans h.tape, hg.output.trans h.output, Nat.le_trans h.size hg.size, fun k hk hn => (hg.block k (Nat.lt_of_lt_of_le hk h.size) (fun e => hn (hr k e.symm))).trans (h.block k hk hn)⟩
theorem OwnM.keepH (h : OwnM w B x d) (hs : ∀ g, x.at g → g < w.heap.size → w'.heap[g]? = w.heap[g]?) : OwnM w' B x d :=
  { h with m := h.m.keep fun g hv hg => hs g (.inl hv) hg, r := h.r.keep fun g hv hg => hs g (.inr (.inl hv)) hg, i := h.i.keep fun g hv hg => hs g (.inr (.inr (.inl hv))) hg, o := h.o.keep fun g hv hg => hs g (.inr (.inr (.inr hv))) hg }
end
end Go.Proofs.Ytjpbjbnialehbaa

namespace Go.Proofs.Ytjpbjbnialehbaa
open Go.ChangeShapes Go.WideShapes Go.ChangeAt Go.RowKit
set_option linter.unusedVariables false
set_option maxRecDepth 8000
set_option linter.unusedSimpArgs false
theorem small_mv {w : World} {x : Mv} {d : Md} (h : RdM w x d) (hs : d.small) : x.small := ⟨by rw [← h.ml]; exact hs.1, by rw [← h.rl]; exact hs.2.1, by rw [← h.il]; exact hs.2.2.1, by rw [← h.ol]; exact hs.2.2.2⟩
theorem small_put {d : Md} (h : d.small) (a n : Int) : (d.put a n).small := by
  unfold Md.put
  split
  · exact ⟨by simpa using h.1, h.2.1, h.2.2.1, h.2.2.2⟩
  · exact h
theorem alloc_size (w : World) (o : Obj) : (w.alloc o).heap.size = w.heap.size + 1 := by simp
end Go.Proofs.Ytjpbjbnialehbaa

namespace Go.Proofs.Ytjpbjbnialehbaa
theorem countP_one (p p' : Nat → Bool) (i : Nat) (hp : p i = true) (hi : p' i = false) (hj : ∀ j, j ≠ i → p' j = p j) : ∀ l : List Nat, l.Nodup → i ∈ l → l.countP p' + 1 = l.countP p
  | [], _, h => by cases h
  | b :: l, hn, h => by
    rw [List.nodup_cons] at hn
    by_cases hb : b = i
    · subst hb
      have e : l.countP p' = l.countP p := List.countP_congr fun j hjl => by
        have : j ≠ b := fun e => hn.1 (e ▸ hjl)
        rw [hj j this]
      rw [List.countP_cons, List.countP_cons, hp, hi, e]
      simp
    · have ih := countP_one p p' i hp hi hj l hn.2 (by rcases List.mem_cons.1 h with h | h; exact absurd h.symm hb; exact h)
      rw [List.countP_cons, List.countP_cons, hj b hb]
      omega
theorem getD_set (listed : Array Bool) (i : Nat) (hi : i < listed.size) : (fun j => (listed.setIfInBounds i true).getD j false) = fun j => if j = i then true else listed.getD j false := by
  funext j
  by_cases h : j = i
  · subst h; simp [hi]
  · simp only [Array.getD_eq_getD_getElem?, if_neg h]
    rw [Array.getElem?_setIfInBounds_ne (fun e => h e.symm)]
section
variable {P : Program} {ops : Array Oper} {Q : Exit → Act → World → Prop}
theorem wpAny_inv (I : (Nat → Bool) → Act → World → Prop)
    (hstep : ∀ (i : Nat) (o : Oper), ops[i]? = some o → ∀ (f : Nat → Bool) (a : Act) (w : World), I f a w → f i = false → (∀ e ∈ o.after, Region.binds .any e = true → f e.on = true) →
      ∀ K : Act → World → Prop, (∀ a' w', I (fun j => if j = i then true else f j) a' w' → K a' w') → if Region.wanted o (yielded ops a.tmps) = true then Oper.wp P o a w K Q else K (a.put o.dst undef) w)
    (hdone : ∀ (f : Nat → Bool) (a : Act) (w : World), I f a w → (∀ i, i < ops.size → f i = true) → Q .normal a w)
    (hac : ∀ (i : Nat) (o : Oper), ops[i]? = some o → ∀ e ∈ o.after, e.on < i) :
    ∀ (fuel : Nat) (listed : Array Bool) (a : Act) (w : World), listed.size = ops.size → (List.range ops.size).countP (fun j => !listed.getD j false) ≤ fuel → I (fun j => listed.getD j false) a w → wpAny P .any ops Q fuel listed a w := by
  have hnil : ∀ (listed : Array Bool), listed.size = ops.size → Region.ready .any ops listed = [] → ∀ i, i < ops.size → listed.getD i false = true := by
    intro listed hsz hr i
    induction i using Nat.strongRecOn with
    | ind i ih =>
      intro hi
      cases hb : listed.getD i false with
      | true => rfl
      | false =>
        have hm : i ∈ Region.ready .any ops listed := mem_ready.2 ⟨by
          have hi' : i < listed.size := by omega
          simpa [hi'] using hb, ops[i], by simp [hi], fun e he _ => ih e.on (hac i _ (by simp [hi]) e he) (Nat.lt_trans (hac i _ (by simp [hi]) e he) hi)⟩
        rw [hr] at hm
        cases hm
  intro fuel
  induction fuel with
  | zero =>
    intro listed a w hsz hc hI
    have hall : ∀ i, i < ops.size → listed.getD i false = true := fun i hi => by
      have h0 : (List.range ops.size).countP (fun j => !listed.getD j false) = 0 := by omega
      rw [List.countP_eq_zero] at h0
      have := h0 i (List.mem_range.2 hi)
      simpa using this
    refine ⟨?_, hdone _ a w hI hall⟩
    apply List.eq_nil_iff_forall_not_mem.2
    intro i hi
    obtain ⟨h1, o, ho, _⟩ := mem_ready.1 hi
    have hi' := (Array.getElem?_eq_some_iff.1 ho).1
    have := hall i hi'
    have hi'' : i < listed.size := by omega
    simp [hi''] at this h1
    rw [this] at h1
    cases h1
  | succ fuel ih =>
    intro listed a w hsz hc hI
    refine ⟨fun hr => hdone _ a w hI (hnil listed hsz hr), fun i hi => ?_⟩
    obtain ⟨h1, o, ho, hd⟩ := mem_ready.1 hi
    have hi' := (Array.getElem?_eq_some_iff.1 ho).1
    have hi'' : i < listed.size := by omega
    have hf : listed.getD i false = false := by simpa [hi''] using h1
    refine wpOp_step ho fun K hK => ?_
    refine hstep i o ho _ a w hI hf (fun e he hb => hd e he hb) K fun a' w' hI' => hK a' w' ?_
    refine ih _ a' w' (by simpa using hsz) ?_ (by rw [getD_set listed i hi'']; exact hI')
    have := countP_one (fun j => !listed.getD j false) (fun j => !(listed.setIfInBounds i true).getD j false) i (by simp [hf]) (by
      have := congrFun (getD_set listed i hi'') i
      simp only [if_true] at this
      rw [this]; rfl) (fun j hj => by
      have := congrFun (getD_set listed i hi'') j
      simp only [if_neg hj] at this
      rw [this]) (List.range ops.size) List.nodup_range (List.mem_range.2 hi')
    omega
/-- Each operation waits for earlier ones alone. -/
def waitsB (ops : Array Oper) : Bool := (List.range ops.size).all fun i => ((ops[i]?).map fun o => o.after.all fun e => decide (e.on < i)).getD true
theorem waits_of (h : waitsB ops = true) : ∀ (i : Nat) (o : Oper), ops[i]? = some o → ∀ e ∈ o.after, e.on < i := by
  intro i o ho e he
  unfold waitsB at h
  rw [List.all_eq_true] at h
  have := h i (List.mem_range.2 (Array.getElem?_eq_some_iff.1 ho).1)
  rw [ho] at this
  simp only [Option.map_some, Option.getD_some] at this
  have := Array.all_eq_true_iff_forall_mem.1 this e he
  simpa using this
/-- The whole region: what holds of it at its beginning, behind each operation, and what that gives at its end. -/
theorem wp_region_inv {id : Nat} {a : Act} {w : World} (I : (Nat → Bool) → Act → World → Prop) (hm : P.follows .mixedOrders = true) (h0 : I (fun _ => false) a w.drew)
    (hac : waitsB ops = true)
    (hstep : ∀ (i : Nat) (o : Oper), ops[i]? = some o → ∀ (f : Nat → Bool) (a : Act) (w : World), I f a w → f i = false → (∀ e ∈ o.after, Region.binds .any e = true → f e.on = true) →
      ∀ K : Act → World → Prop, (∀ a' w', I (fun j => if j = i then true else f j) a' w' → K a' w') → if Region.wanted o (yielded ops a.tmps) = true then Oper.wp P o a w K Q else K (a.put o.dst undef) w)
    (hdone : ∀ (f : Nat → Bool) (a : Act) (w : World), I f a w → (∀ i, i < ops.size → f i = true) → Q .normal a w) : (Code.region id ops true).wp P Q a w := by
  refine wp_region_any hm ?_
  refine wpAny_inv I hstep hdone (waits_of hac) ops.size _ a _ (by simp) ?_ ?_
  · exact Nat.le_trans (List.countP_le_length) (by simp)
  · have e : (fun j => (Array.replicate ops.size false).getD j false) = fun _ => false := by
      funext j
      simp only [Array.getD_eq_getD_getElem?]
      by_cases hj : j < ops.size
      · rw [Array.getElem?_eq_getElem (by simpa using hj)]; simp
      · rw [Array.getElem?_eq_none (by simpa using hj)]; rfl
    rw [e]
    exact h0
end
end Go.Proofs.Ytjpbjbnialehbaa

namespace Go.Proofs.Ytjpbjbnialehbaa
open Go.ChangeShapes Go.WideShapes Go.ChangeAt Go.RowKit
set_option linter.unusedVariables false
set_option maxRecDepth 8000
set_option linter.unusedSimpArgs false
/-- Can a machine be made of this? -/
def newB (im : List Int) (a st : Int) (ins : List Int) : Bool :=
  inB a 0 510 && ((a % 2 == 0) && (decide ((im.length : Int) ≤ 256 - a / 2) && (wdB im && (inB st 0 65535 && (decide ((ins.length : Int) ≤ 50) && wdB ins)))))
/-- Numbers laid over a list from a place on. -/
def over (ns : List Int) (k : Nat) (im : List Int) : List Int := ns.take k ++ (im ++ ns.drop (k + im.length))
def newR (st : Int) : List Int := [0, 0, 0, 0, 0, 0, 512, st]
theorem inB_t (x a b : Int) (h : a ≤ x ∧ x ≤ b) : inB x a b = true := by simp [inB, h]
theorem inB_b {x a b : Int} (h : inB x a b = true) : a ≤ x ∧ x ≤ b := by unfold inB at h; simpa using h
end Go.Proofs.Ytjpbjbnialehbaa

namespace Go.Proofs.Ytjpbjbnialehbaa
open Go.ChangeShapes Go.WideShapes Go.ChangeAt Go.RowKit
set_option linter.unusedVariables false
set_option maxRecDepth 8000
set_option linter.unusedSimpArgs false
theorem inB_f (x a b : Int) (h : x < a ∨ b < x) : inB x a b = false := by unfold inB; rw [Bool.and_eq_false_iff]; simp; omega
theorem eqB_t (x a : Int) (h : x = a) : (x == a) = true := by simp [h]
theorem eqB_f (x a : Int) (h : x ≠ a) : (x == a) = false := by simp [h]
theorem modes_bd : ∀ i : Fin 10, 0 ≤ nAt [0, 0, 1, 2, 3, 4, 5, 6, 7, 2] i.val ∧ nAt [0, 0, 1, 2, 3, 4, 5, 6, 7, 2] i.val ≤ 7 := by decide +kernel
theorem regs_bd : ∀ i : Fin 7, 0 ≤ nAt [0, 1, 2, 5, 6, 7, 7] i.val ∧ nAt [0, 1, 2, 5, 6, 7, 7] i.val ≤ 7 := by decide +kernel
theorem od_okI {o : Od} (hm : 0 ≤ o.m ∧ o.m ≤ 7) (hr : 0 ≤ o.r ∧ o.r ≤ 7) (hx : 0 ≤ o.x ∧ o.x ≤ 65535) (h : o.hasX = true ∨ o.x = 0) : o.ok = true := by
  unfold Od.ok
  rw [inB_t _ _ _ hm, inB_t _ _ _ hr, inB_t _ _ _ hx]
  rcases h with h | h
  · rw [h]; rfl
  · simp [h]
/-- The literal list that a draw takes its number of, at the world where it is laid. -/
theorem int_lit (cb : Nat) (a : Option Addr) (len cap : Nat) (xs : List UInt8) (w : World) (hc : Cur w cb a len cap xs) (L : List Int) (m : Nat) (hm : L.length = m) (h0 : 0 < m) (hb : m ≤ 1048576) (g : Nat) (hg : w.heap.size = g) (o : Obj) (ho : o = (.cells (L.map (Value.int .i64)).toArray 3)) :
    Calls Try.prog 58 #[.pointer (some ⟨cb, 0, none⟩), .slice (some ⟨g, 0, none⟩) m m] (w.alloc o) fun e w' => ∃ j : Nat, j < m ∧ e = .returned (.int .i64 (nAt L j)) ∧ Cur w' cb a len cap xs ∧ (w.alloc o).grownBy w' (some cb) := by
  subst hg
  subst ho
  exact int_any cb a len cap xs (some ⟨w.heap.size, 0, none⟩) m m L _ (hc.later ((Below.refl _ _).alloc (Nat.le_refl _) _)) (RdN_lit w _) (fun ad e => by cases e; show w.heap.size ≠ cb; have := hc.lt; omega) hm h0 hb
set_option maxHeartbeats 2000000 in
set_option maxRecDepth 100000 in
theorem opdD_any (cb : Nat) (a : Option Addr) (len cap : Nat) (xs : List UInt8) (w : World) (hc : Cur w cb a len cap xs) :
    Calls Try.prog 75 #[.pointer (some ⟨cb, 0, none⟩)] w fun e w' => ∃ o : Od, o.ok = true ∧ e = .returned o.v ∧ Cur w' cb a len cap xs ∧ w.grownBy w' (some cb) := by
  have hlt := hc.lt
  have E0 := hide (ez_new hc #[c8 [0, 0, 0] 0, c8 [0, 0, 0] 1, c8 [0, 0, 0] 2] 93 3 (c8 [0, 0, 0]) (row3_new w [0, 0, 0] 93))
  have I0 := hide (int_lit cb a len cap xs (w.alloc (Obj.cells #[c8 [0, 0, 0] 0, c8 [0, 0, 0] 1, c8 [0, 0, 0] 2] 93)) (unhide E0).cur [0, 0, 1, 2, 3, 4, 5, 6, 7, 2] 10 rfl (by omega) (by omega) (w.heap.size + 1) (by simp) _ rfl)
  clear hc
  go_enter Try.func75, Try.ntmps75
  go_wp2_with fail
  refine (unhide I0).mono ?_
  rintro e w1 ⟨j1, hj1, rfl, hc1, hg1⟩
  have hmb := modes_bd ⟨j1, hj1⟩
  simp only at hmb
  generalize nAt [0, 0, 1, 2, 3, 4, 5, 6, 7, 2] j1 = m at hmb ⊢
  have E1 := hide (((unhide E0).alloc _).draw hc1 hg1)
  have I1 := hide (int_lit cb a len cap xs w1 hc1 [0, 1, 2, 5, 6, 7, 7] 7 rfl (by omega) (by omega) w1.heap.size rfl _ rfl)
  clear hc1 hg1 I0 E0 hj1
  go_wp2_with fail
  refine (unhide I1).mono ?_
  rintro e w2 ⟨j2, hj2, rfl, hc2, hg2⟩
  have hrb := regs_bd ⟨j2, hj2⟩
  simp only at hrb
  generalize nAt [0, 1, 2, 5, 6, 7, 7] j2 = r at hrb ⊢
  have E2 := hide ((((unhide E1).alloc _).draw hc2 hg2).alloc (Obj.cells #[c8 [m, r, 0] 0, c8 [m, r, 0] 1, c8 [m, r, 0] 2] 93))
  have R2 := hide (row3_new w2 [m, r, 0] 93)
  have s2 : w.heap.size < w2.heap.size := by
    have h1 := (unhide E1).res.lt
    have h2 := hg2.size
    simp at h2
    omega
  clear hc2 hg2 I1 E1 hj2
  go_wp2_with fail
  refine (hasX_any ⟨m, r, 0⟩ _).mono ?_
  rintro e w3 ⟨rfl, hb3⟩
  have E3 := hide ((unhide E2).later hb3)
  have R3 := hide (row_later (unhide R2) hb3)
  clear hb3 E2 R2
  cases hX : Od.hasX ⟨m, r, 0⟩
  · have rr := unhide R3
    have ee := (unhide E3).res
    have x0 : w3.cell? ⟨w2.heap.size, 0, none⟩ = some (.int .i64 (m)) := rr.cell (i := 0) (by omega)
    have g0 := rr.frozen 0
    have c0 : w3.cell? ⟨w.heap.size, 0, none⟩ = some (.int .i64 0) := ee.cell (i := 0) (by omega)
    have f0 := ee.frozen 0
    have x1 : w3.cell? ⟨w2.heap.size, 1, none⟩ = some (.int .i64 (r)) := rr.cell (i := 1) (by omega)
    have g1 := rr.frozen 1
    have c1 : w3.cell? ⟨w.heap.size, 1, none⟩ = some (.int .i64 0) := ee.cell (i := 1) (by omega)
    have f1 := ee.frozen 1
    have x2 : w3.cell? ⟨w2.heap.size, 2, none⟩ = some (.int .i64 (0)) := rr.cell (i := 2) (by omega)
    have g2 := rr.frozen 2
    have c2 : w3.cell? ⟨w.heap.size, 2, none⟩ = some (.int .i64 0) := ee.cell (i := 2) (by omega)
    have f2 := ee.frozen 2
    clear rr ee
    have EF := hide ((((((unhide E3).setR 0 _ (c8 [m, 0, 0]) (row3_set (unhide E3).res 0 _ (fun j hj => by rcases j with _ | _ | _ | j <;> first | rfl | omega)))).setR 1 _ (c8 [m, r, 0]) (row3_set (((unhide E3).setR 0 _ (c8 [m, 0, 0]) (row3_set (unhide E3).res 0 _ (fun j hj => by rcases j with _ | _ | _ | j <;> first | rfl | omega)))).res 1 _ (fun j hj => by rcases j with _ | _ | _ | j <;> first | rfl | omega)))).setR 2 _ (c8 [m, r, 0]) (row3_set (((((unhide E3).setR 0 _ (c8 [m, 0, 0]) (row3_set (unhide E3).res 0 _ (fun j hj => by rcases j with _ | _ | _ | j <;> first | rfl | omega)))).setR 1 _ (c8 [m, r, 0]) (row3_set (((unhide E3).setR 0 _ (c8 [m, 0, 0]) (row3_set (unhide E3).res 0 _ (fun j hj => by rcases j with _ | _ | _ | j <;> first | rfl | omega)))).res 1 _ (fun j hj => by rcases j with _ | _ | _ | j <;> first | rfl | omega)))).res 2 _ (fun j hj => by rcases j with _ | _ | _ | j <;> first | rfl | omega)))
    go_wp2
    refine bodyPost_ret (results_cell_row (P := Try.prog) rfl _ _ w.heap.size 93 #[.int .i64 (m), .int .i64 (r), .int .i64 (0)] (0, 0) _ rfl (row3_heap (unhide EF).res) Try.underlying93 rfl (by kernel_rfl)) rfl ?_
    exact ⟨⟨m, r, 0⟩, od_okI hmb hrb (by simp) (.inr rfl), rfl, (unhide EF).cur, (unhide EF).gr⟩
  · have W3 := hide (word_any cb a len cap xs w3 (unhide E3).cur)
    go_wp2_with fail
    refine (unhide W3).mono ?_
    rintro e w4 ⟨x, hx0, hx1, rfl, hc4, hg4⟩
    have E4 := hide (((unhide E3).draw hc4 hg4).setO s2 2 (.int .i64 x))
    have R3' := hide (row_draw (unhide R3) hg4 (by omega))
    have R4 := hide (row3_set (unhide R3') 2 x (l' := [m, r, x]) (fun j hj => by rcases j with _ | _ | _ | j <;> first | rfl | omega))
    have ee3 := (unhide E3).draw hc4 hg4
    clear hc4 hg4 W3 E3 R3
    have x0 : w4.cell? ⟨w2.heap.size, 0, none⟩ = some (.int .i64 (m)) := (unhide R3').cell (i := 0) (by omega)
    have g0 := (unhide R3').frozen 0
    have c0 : w4.cell? ⟨w.heap.size, 0, none⟩ = some (.int .i64 0) := ee3.res.cell (i := 0) (by omega)
    have f0 := ee3.res.frozen 0
    have x1 : w4.cell? ⟨w2.heap.size, 1, none⟩ = some (.int .i64 (r)) := (unhide R3').cell (i := 1) (by omega)
    have g1 := (unhide R3').frozen 1
    have c1 : w4.cell? ⟨w.heap.size, 1, none⟩ = some (.int .i64 0) := ee3.res.cell (i := 1) (by omega)
    have f1 := ee3.res.frozen 1
    have x2 : w4.cell? ⟨w2.heap.size, 2, none⟩ = some (.int .i64 (0)) := (unhide R3').cell (i := 2) (by omega)
    have g2 := (unhide R3').frozen 2
    have c2 : w4.cell? ⟨w.heap.size, 2, none⟩ = some (.int .i64 0) := ee3.res.cell (i := 2) (by omega)
    have f2 := ee3.res.frozen 2
    clear ee3
    have EF := hide ((((((unhide E4).setR 0 _ (c8 [m, 0, 0]) (row3_set (unhide E4).res 0 _ (fun j hj => by rcases j with _ | _ | _ | j <;> first | rfl | omega)))).setR 1 _ (c8 [m, r, 0]) (row3_set (((unhide E4).setR 0 _ (c8 [m, 0, 0]) (row3_set (unhide E4).res 0 _ (fun j hj => by rcases j with _ | _ | _ | j <;> first | rfl | omega)))).res 1 _ (fun j hj => by rcases j with _ | _ | _ | j <;> first | rfl | omega)))).setR 2 _ (c8 [m, r, x]) (row3_set (((((unhide E4).setR 0 _ (c8 [m, 0, 0]) (row3_set (unhide E4).res 0 _ (fun j hj => by rcases j with _ | _ | _ | j <;> first | rfl | omega)))).setR 1 _ (c8 [m, r, 0]) (row3_set (((unhide E4).setR 0 _ (c8 [m, 0, 0]) (row3_set (unhide E4).res 0 _ (fun j hj => by rcases j with _ | _ | _ | j <;> first | rfl | omega)))).res 1 _ (fun j hj => by rcases j with _ | _ | _ | j <;> first | rfl | omega)))).res 2 _ (fun j hj => by rcases j with _ | _ | _ | j <;> first | rfl | omega)))
    have hne : w.heap.size ≠ w2.heap.size := by omega
    go_wp2
    refine bodyPost_ret (results_cell_row (P := Try.prog) rfl _ _ w.heap.size 93 #[.int .i64 m, .int .i64 r, .int .i64 x] (0, 0) _ rfl (row3_heap (unhide EF).res) Try.underlying93 rfl (by kernel_rfl)) rfl ?_
    exact ⟨⟨m, r, x⟩, od_okI hmb hrb ⟨hx0, hx1⟩ (.inl hX), rfl, (unhide EF).cur, (unhide EF).gr⟩
end Go.Proofs.Ytjpbjbnialehbaa

namespace Go.Proofs.Ytjpbjbnialehbaa
open Go.ChangeShapes Go.WideShapes Go.ChangeAt Go.RowKit
set_option linter.unusedVariables false
set_option maxRecDepth 8000
set_option linter.unusedSimpArgs false
set_option maxHeartbeats 2000000 in
theorem num_any (cb : Nat) (a : Option Addr) (len cap : Nat) (xs : List UInt8) (w : World) (hc : Cur w cb a len cap xs) :
    Calls Try.prog 36 #[.pointer (some ⟨cb, 0, none⟩)] w fun e w' => ∃ x : Int, e = .returned (.int .i64 x) ∧ Cur w' cb a len cap xs ∧ w.grownBy w' (some cb) := by
  have B0 := hide (below_any cb a len cap xs 65536 w (by omega) hc)
  have hlt := hc.lt
  clear hc
  go_enter Try.func36, Try.ntmps36
  go_wp2_with fail
  refine (unhide B0).mono ?_
  rintro e w1 ⟨y, hy0, hy1, rfl, hc1, hg1⟩
  obtain ⟨hy2, hy3⟩ := hy0 (by omega)
  clear hy0 hy1 B0
  have s1 := hg1.size
  have I1 := hide (int_lit cb a len cap xs w1 hc1 [0, 1, 2, -1, 7, 8, 255, 256, 32767, 32768, 65535, 65536, -32768, -65537, 9223372036854775807, -9223372036854775808, y] 17 rfl (by omega) (by omega) w1.heap.size rfl _ rfl)
  have G1 := hide (grownBy_trans hg1 (grownBy_below ((Below.refl w1.heap.size w1).alloc (Nat.le_refl _) (.cells ([0, 1, 2, -1, 7, 8, 255, 256, 32767, 32768, 65535, 65536, -32768, -65537, 9223372036854775807, -9223372036854775808, y].map (Value.int .i64)).toArray 3))))
  clear hc1 hg1
  go_wp2_with fail
  refine (unhide I1).mono ?_
  rintro e w2 ⟨j, hj, rfl, hc2, hg2⟩
  generalize nAt [0, 1, 2, -1, 7, 8, 255, 256, 32767, 32768, 65535, 65536, -32768, -65537, 9223372036854775807, -9223372036854775808, y] j = x
  have G2 := hide (grownBy_trans (unhide G1) hg2)
  have C2 := hide hc2
  clear hc2 hg2 I1 G1
  go_wp2
  go_ret
  exact ⟨x, rfl, unhide C2, unhide G2⟩
set_option maxHeartbeats 2000000 in
theorem addr_any (cb : Nat) (a : Option Addr) (len cap : Nat) (xs : List UInt8) (w : World) (hc : Cur w cb a len cap xs) :
    Calls Try.prog 42 #[.pointer (some ⟨cb, 0, none⟩)] w fun e w' => ∃ x : Int, e = .returned (.int .i64 x) ∧ Cur w' cb a len cap xs ∧ w.grownBy w' (some cb) := by
  have I1 := hide (int_lit cb a len cap xs w hc [0, 2, 64, 510, 512, 1, -2, 100, 9223372036854775807] 9 rfl (by omega) (by omega) w.heap.size rfl _ rfl)
  have G1 := hide (grownBy_below (r := some cb) ((Below.refl w.heap.size w).alloc (Nat.le_refl _) (.cells ([0, 2, 64, 510, 512, 1, -2, 100, 9223372036854775807].map (Value.int .i64)).toArray 3)))
  clear hc
  go_enter Try.func42, Try.ntmps42
  go_wp2_with fail
  refine (unhide I1).mono ?_
  rintro e w2 ⟨j, hj, rfl, hc2, hg2⟩
  generalize nAt [0, 2, 64, 510, 512, 1, -2, 100, 9223372036854775807] j = x
  have G2 := hide (grownBy_trans (unhide G1) hg2)
  have C2 := hide hc2
  clear hc2 hg2 I1 G1
  go_wp2
  go_ret
  exact ⟨x, rfl, unhide C2, unhide G2⟩
end Go.Proofs.Ytjpbjbnialehbaa

namespace Go.Proofs.Ytjpbjbnialehbaa
open Go.ChangeShapes Go.WideShapes Go.ChangeAt Go.RowKit
set_option linter.unusedVariables false
set_option maxRecDepth 8000
set_option linter.unusedSimpArgs false
/-- The cells of so many noughts. -/
def zA (n : Nat) : Array Value := (cellsN (List.replicate n 0)).toArray
theorem zA_size (n : Nat) : (zA n).size = n := by simp [zA, cellsN]
theorem made256 : madeCells #[Value.int .i64 0] 256 = zA 256 := by kernel_rfl
theorem made8 : madeCells #[Value.int .i64 0] 8 = zA 8 := by kernel_rfl
section
variable {o : Oper} {a : Act} {w : World} {K : Act → World → Prop} {Q : Exit → Act → World → Prop}
theorem wp_make (n : Nat) (hn : madeCells #[Value.int .i64 0] n = zA n) (hb : n ≤ 1048576) (ho : o.op = .makeSlice 36 (.const (.int .i64 (n : Int))) (.const (.int .i64 (n : Int))))
    (h : K (a.put o.dst (.slice (some ⟨w.heap.size, 0, none⟩) n n)) (w.alloc (.cells (zA n) 3))) : o.wp Try.prog a w K Q := by
  have hr := run_make_row' (P := Try.prog) 36 3 (.int .i64 0) 8 Try.underlying36 info3 rfl .i64 .i64 n (by omega) (by omega) w
  rw [hn] at hr
  unfold Oper.wp execOp
  simp only [ho, Act.eval, hr, Sem.run_bind, Sem.run_pure, Result.andThen_ok]
  exact h
/-- 'append(v, s...)' as one operation: where the answer lies, too. -/
theorem wp_app (p q : Operand) (ho : o.op = .call { callee := .builtin .append, args := #[p, q], argTypes := #[36, 36] })
    (B : Nat) (v : Value) (xs : List Int) (hs : a.eval p = v) (hown : OwnN w B v xs) (s : Sl) (ns : List Int) (hx : a.eval q = .slice s.a s.n s.c) (hr : RdN w s.a ns) (hl : ns.length = s.n) (hz : s.nz) (hm : xs.length + s.n ≤ 4194304) (hB : B ≤ w.heap.size)
    (h : ∀ v' w', OwnN w' B v' (xs ++ ns) → w.grownBy w' v.ownBlock → (v'.ownBlock = v.ownBlock ∨ v'.ownBlock = some w.heap.size) → K (a.put o.dst v') w') : o.wp Try.prog a w K Q := by
  obtain ⟨i0, hi, hz0, hz1, hz2⟩ := info_parts info3
  obtain ⟨sa, sn, sc⟩ := s
  simp only at hx hr hl hm
  cases sa with
  | none =>
    have h0 : ns = [] := by
      rcases hr with h0 | ⟨_, _, e, _⟩
      · exact h0
      · cases e
    subst h0
    have hn : sn = 0 := by simp at hl; omega
    have hc : sc = 0 := hz rfl
    subst hn hc
    have hrun := run_append_owned_none (P := Try.prog) (w := w) B 36 o.type 3 i0 1 Try.underlying36 hi v xs.length (cellsN xs) hown
    have hk := h v w (by rw [List.append_nil]; exact hown) (World.grownBy.refl _ _) (.inl rfl)
    unfold Oper.wp
    simp [execOp, ho, resolve, invoke, builtin, hs, hx, hrun, Result.andThen]
    exact hk
  | some ad =>
    obtain ⟨v', w', hr', h2, h3, _, h5⟩ := run_append_own_at (P := Try.prog) w B 36 o.type 3 i0 (.int .i64 0) 1 8 Try.underlying36 hi hz0 hz1 hz2 rfl (by decide) v xs.length (cellsN xs) hown ad sn sc (cellsN ns) (by rw [cellsN_length]; omega) (rdN_cells hr) (cellsN_one _) (by unfold maxLen; omega) (by omega) hB
    unfold Oper.wp execOp
    simp only [ho, resolve, invoke, builtin, Sem.run_bind, Sem.run_pure, Result.andThen_ok, List.map_toArray, List.map_cons, List.map_nil, hs, hx, hr']
    refine h v' w' ?_ h3 h5
    unfold OwnN
    rw [cellsN_append, List.length_append, hl]
    exact h2
theorem wp_empty (ho : o.op = .buildSlice 36 0 #[]) (h : K (a.put o.dst (.slice (some ⟨w.heap.size, 0, none⟩) 0 0)) (w.alloc (.cells #[] 3))) : o.wp Try.prog a w K Q := by
  obtain ⟨i0, hi, hz0, hz1, hz2⟩ := info_parts info3
  unfold Oper.wp execOp
  simp only [ho]
  go_simp
  exact h
theorem zero28 : (Try.prog.info? 38).map (fun i => (i.zero, i.size)) = some (some (.agg zMv.cs), 9) := by kernel_rfl
theorem wp_alloc28 (ho : o.op = .alloc 38) (h : K (a.put o.dst (.pointer (some ⟨w.heap.size, 0, none⟩))) (w.alloc (.cells zMv.cs 38))) : o.wp Try.prog a w K Q := by
  have hz := (zero_of_info zero28).1
  unfold Oper.wp execOp
  simp only [ho, Instr.alloc, hz, Sem.run_bind, Sem.run_pure, Result.andThen_ok]
  simp [go_sem]
  exact h
theorem wp_move (x : Operand) (ho : o.op = .move x) (h : K (a.put o.dst (a.eval x)) w) : o.wp Try.prog a w K Q := by
  unfold Oper.wp execOp
  simp only [ho, Sem.run_bind, Sem.run_pure, Result.andThen_ok]
  exact h
end
theorem own_made {w : World} {g n B : Nat} (h : w.heap[g]? = some (.cells (zA n) 3 (0, 0))) (hB : B ≤ g) (hn : n ≤ 1048576) : OwnN w B (.slice (some ⟨g, 0, none⟩) n n) (List.replicate n 0) := by
  unfold OwnN
  rw [List.length_replicate]
  refine ⟨by rw [cellsN_length, List.length_replicate]; omega, .inr ⟨g, n, zA n, rfl, hB, h, Nat.le_refl _, by unfold maxLen; omega, by rw [zA_size]; omega, ?_⟩⟩
  unfold zA
  rw [List.toList_toArray, List.take_of_length_le (by rw [cellsN_length, List.length_replicate]; omega)]
theorem own_bare {w : World} {g B : Nat} (h : w.heap[g]? = some (.cells #[] 3 (0, 0))) (hB : B ≤ g) : OwnN w B (.slice (some ⟨g, 0, none⟩) 0 0) [] :=
  ⟨rfl, .inr ⟨g, 0, #[], rfl, hB, h, Nat.le_refl _, Nat.zero_le _, rfl, rfl⟩⟩
/-- Rows that differ lie in blocks that differ. -/
theorem ne_of_rows {w : World} {g g' : Nat} {o o' : Obj} (h : w.heap[g]? = some o) (h' : w.heap[g']? = some o') (hne : o ≠ o') : g ≠ g' := fun e => by
  subst e
  rw [h] at h'
  exact hne (Option.some.inj h')
theorem ne_size {c c' : Array Value} {t t' : TypeId} {f f' : Nat × Nat} (h : c.size ≠ c'.size) : Obj.cells c t f ≠ Obj.cells c' t' f' := fun e => by
  injection e with e1
  exact h (by rw [e1])
end Go.Proofs.Ytjpbjbnialehbaa
