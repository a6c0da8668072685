/- Contracts over this seat's translation, laid together; conditions stand as hypotheses of each. -/
import Derived.Test.YtjpbjbnialehbaaDoorAsA
import Derived.Great.Walk
import Derived.Laws.CopyOwn

namespace Go.Proofs.YtjpbjbnialehbaaDoor
open Go.ChangeShapes Go.WideShapes Go.ChangeAt Go.RowKit
set_option linter.unusedVariables false
set_option maxRecDepth 8000
set_option linter.unusedSimpArgs false
theorem info_parts {P : Program} {t : TypeId} {z : Option Value} {s b : Nat} (h : (P.info? t).map (fun i => (i.zero, i.size, i.bytes)) = some (z, s, b)) : ∃ i, P.info? t = some i ∧ i.zero = z ∧ i.size = s ∧ i.bytes = b := by
  cases hq : P.info? t with
  | none => simp [hq] at h
  | some i => simp [hq] at h; exact ⟨i, rfl, h⟩
/-- No address, no room. -/
def Sl.nz (s : Sl) : Prop := s.a = none → s.c = 0
def Mv.nz (x : Mv) : Prop := x.m.nz ∧ x.r.nz ∧ x.i.nz ∧ x.o.nz
theorem OwnN.nz {w : World} {B : Nat} {s : Sl} {ns : List Int} (h : OwnN w B s.v ns) : s.nz := by
  obtain ⟨a, c, e, _, _, _, _, h0⟩ := h.rd
  obtain ⟨sa, sn, sc⟩ := s
  unfold Sl.v at e
  simp at e
  obtain ⟨rfl, _, rfl⟩ := e
  exact h0
theorem OwnM.nz {w : World} {B : Nat} {x : Mv} {d : Md} (h : OwnM w B x d) : x.nz := ⟨h.m.nz, h.r.nz, h.i.nz, h.o.nz⟩
theorem rdN_cells {w : World} {ad : Addr} {ns : List Int} (h : RdN w (some ad) ns) : ∀ j u, (cellsN ns)[j]? = some u → w.cell? (ad.add j) = some u := by
  intro j u hu
  simp only [cellsN, List.getElem?_map, Option.map_eq_some_iff] at hu
  obtain ⟨y, hy, rfl⟩ := hu
  have hj := (List.getElem?_eq_some_iff.1 hy).1
  rcases h with rfl | ⟨b, off, ha, hb, hc⟩
  · simp at hj
  · cases ha
    have := hc j hj
    have e : nAt ns j = y := by unfold nAt; rw [List.getD_eq_getElem?_getD, hy]; rfl
    rw [e] at this
    unfold Addr.add
    by_cases h0 : j = 0
    · subst h0; simpa using this
    · simpa [h0] using this
/-- 'append(v, s...)', v owned, s whatever is read: as one law for the walk. -/
theorem wpList_app {w : World} {ops : Array Oper} {rest : List Oper} {o : Oper} {a : Act} {Q : Exit → Act → World → Prop} (hgd : o.guard = none) (p q : Operand) (ho : o.op = .call { callee := .builtin .append, args := #[p, q], argTypes := #[25, 25] })
    (B : Nat) (v : Value) (xs : List Int) (hs : a.eval p = v) (hown : OwnN w B v xs) (s : Sl) (ns : List Int) (hx : a.eval q = .slice s.a s.n s.c) (hr : RdN w s.a ns) (hl : ns.length = s.n) (hz : s.nz) (hm : xs.length + s.n ≤ 4194304) (hB : B ≤ w.heap.size)
    (h : ∀ v' w', OwnN w' B v' (xs ++ ns) → w.grownBy w' v.ownBlock → wpList Tryd.prog ops Q rest (a.put o.dst v') w') : wpList Tryd.prog ops Q (o :: rest) a w := by
  obtain ⟨i0, hi, hz0, hz1, hz2⟩ := info_parts info3
  obtain ⟨sa, sn, sc⟩ := s
  simp only at hx hr hl hm
  cases sa with
  | none =>
    have h0 : ns = [] := by
      rcases hr with h0 | ⟨_, _, e, _⟩
      · exact h0
      · cases e
    subst h0
    have hn : sn = 0 := by simp at hl; omega
    have hc : sc = 0 := hz rfl
    subst hn hc
    refine wpList_append_own_none hgd p q 25 ho B 3 i0 1 Tryd.underlying25 hi v xs.length (cellsN xs) hs hown hx ?_
    exact h v w (by rw [List.append_nil]; exact hown) (World.grownBy.refl _ _)
  | some ad =>
    refine wpList_append_own _ hgd p q 25 ho B 3 i0 (.int .i64 0) 1 8 Tryd.underlying25 hi hz0 hz1 hz2 rfl (by decide) v xs.length (cellsN xs) hs hown ad sn sc (cellsN ns) hx (by rw [cellsN_length]; omega) (rdN_cells hr) (cellsN_one _) (by unfold maxLen; omega) (by omega) hB ?_
    intro v' w' ho' hg _
    refine h v' w' ?_ hg
    unfold OwnN
    rw [cellsN_append, List.length_append, hl]
    exact ho'
theorem below_grown {w w' : World} (hg : w.grownBy w' none) : Below w.heap.size w w' := ⟨hg.os, hg.tape, hg.output, hg.size, fun k hk => hg.block k hk (by simp)⟩
set_option maxHeartbeats 1000000 in
theorem copyN_any (s : Sl) (ns : List Int) (w : World) (hr : RdN w s.a ns) (hl : ns.length = s.n) (hz : s.nz) (hm : s.n ≤ 1048576) :
    Calls Tryd.prog 31 #[.slice s.a s.n s.c] w fun e w' => ∃ v, e = .returned v ∧ OwnN w' w.heap.size v ns ∧ Below w.heap.size w w' := by
  go_enter Tryd.func31, Tryd.ntmps31
  go_wp2_with (at_builtin; refine wpList_app rfl _ _ rfl w.heap.size (.slice none 0 0) [] rfl (ownN_none _ _) s ns rfl hr hl hz (by simp; omega) (Nat.le_refl _) ?_; intro v' w' ho hg; have HO := hide ho; have HG := hide hg; clear ho hg)
  go_ret
  exact ⟨_, rfl, unhide HO, below_grown (unhide HG)⟩
/-- While the program copies a machine: its box, the answer's place. -/
structure Cc (w wr : World) (x : Mv) : Prop where
  bx : wr.heap[w.heap.size]? = some (.cells x.cs 32 (0, 0))
  re : wr.heap[w.heap.size + 1]? = some (.cells zMv.cs 32 (0, 0))
  bel : Below w.heap.size w wr
  sz : w.heap.size + 2 ≤ wr.heap.size
section
variable {w wr w' : World} {x : Mv}
theorem Cc.later (h : Cc w wr x) (hb : Below wr.heap.size wr w') : Cc w w' x :=
  ⟨row_lat h.bx hb, row_lat h.re hb, h.bel.trans (hb.mono (by have := h.bel.size; omega)), Nat.le_trans h.sz hb.size⟩
theorem Cc.put (h : Cc w wr x) (j : Nat) (v : Value) (x' : Mv) (he : x.cs.setIfInBounds j v = x'.cs) : Cc w (wr.setCell ⟨w.heap.size, j, none⟩ v) x' :=
  ⟨row_put h.bx j v x' he, row_keep h.re (by omega), Below.drop h.bel (by omega), by simpa using h.sz⟩
theorem cc_new0 (w : World) (x : Mv) : Cc w ((w.alloc (.cells x.cs 32)).alloc (.cells zMv.cs 32)) x := by
  have z1 : (w.alloc (.cells x.cs 32)).heap.size = w.heap.size + 1 := by simp
  have a1 := row_lat (heap_alloc_last w (.cells x.cs 32)) (below_new _ (.cells zMv.cs 32))
  have a2 := heap_alloc_last (w.alloc (.cells x.cs 32)) (.cells zMv.cs 32)
  rw [z1] at a2
  exact ⟨a1, a2, ((Below.refl _ _).alloc (Nat.le_refl _) _).alloc (by omega) _, by simp⟩
theorem cc_new (w : World) (x : Mv) : Cc w ((w.alloc (.cells x.cs 32)).alloc (.cells #[Value.slice none 0 0, Value.slice none 0 0, Value.bool false, Value.bool false, Value.bool false, Value.bool false, Value.slice none 0 0, Value.slice none 0 0, Value.int .i64 0] 32)) x := cc_new0 w x
theorem Cc.done {x : Mv} (h : Cc w wr x) : Cd w (wr.setRow (w.heap.size + 1) x.cs) x :=
  ⟨setRow_heap wr _ zMv.cs _ 32 _ h.re, below_setRow h.bel (by omega) _⟩
theorem RdM.setB {x : Mv} {d : Md} {b : Nat} (h : RdM wr x d) (hw : RdM w x d) (hb : w.heap.size ≤ b) (j : Nat) (v : Value) : RdM (wr.setCell ⟨b, j, none⟩ v) x d := by
  have key : ∀ {a : Option Addr} {ns : List Int}, RdN w a ns → ns = [] ∨ ∀ ad, a = some ad → ad.block ≠ b := fun hr => by
    rcases hr with h0 | ⟨b', off, rfl, hb', _⟩
    · exact .inl h0
    · exact .inr fun ad e => by cases e; show b' ≠ b; omega
  exact ⟨h.m.put (key hw.m), h.r.put (key hw.r), h.i.put (key hw.i), h.o.put (key hw.o), h.ml, h.rl, h.il, h.ol⟩
end
set_option maxHeartbeats 4000000 in
theorem copyM_any (x : Mv) (d : Md) (w : World) (hs : x.small) (hz : x.nz) (hr : RdM w x d) : Calls Tryd.prog 21 #[.agg x.cs] w fun e w' => ∃ y : Mv, e = .returned (.agg y.cs) ∧ y.fl = x.fl ∧ OwnM w' (w.heap.size + 2) y d ∧ Below w.heap.size w w' := by
  obtain ⟨s0, s1, s2, s3⟩ := hs
  have NZ := hide hz
  have C := hide (cc_new w x)
  have HR := hide hr
  have R := hide (hr.later (unhide C).bel)
  have q0 : x.cs[0]? = some (.slice x.m.a x.m.n x.m.c) := rfl
  have T := hide (copyN_any x.m d.m _ (unhide R).m hr.ml hz.1 s0)
  clear hr hz
  go_enter Tryd.func21, Tryd.ntmps21
  go_wp2_with fail
  refine (unhide T).mono ?_
  rintro e w0 ⟨v, rfl, own, bel⟩
  obtain ⟨a0, n0, c0, rfl⟩ : ∃ a n c, v = .slice a n c := by obtain ⟨a, c, e, _⟩ := own.rd; exact ⟨_, _, _, e⟩
  have Cn := hide ((unhide C).later bel)
  have Rn := hide ((unhide R).later bel)
  have O0 := hide (OwnN.base own (B' := w.heap.size + 2) (unhide C).sz)
  clear own bel T C R q0
  have o0 := row_m (unhide Cn).bx
  have f0 := row_fz (unhide Cn).bx 0
  have b1 := row_r (unhide Cn).bx
  have C := hide ((unhide Cn).put 0 (.slice a0 n0 c0) (⟨⟨a0, n0, c0⟩, x.r, x.n, x.z, x.v, x.c, x.i, x.o, x.st⟩ : Mv) rfl)
  have R := hide ((unhide Rn).setB (unhide HR) (Nat.le_refl _) 0 (.slice a0 n0 c0))
  have On := hide ((unhide O0).put (b := w.heap.size) (j := 0) (u := .slice a0 n0 c0) (by omega))
  clear O0
  have O0 := hide (unhide On)
  clear On
  have T := hide (copyN_any x.r d.r _ (unhide R).r (unhide R).rl (unhide NZ).2.1 s1)
  clear Cn Rn
  go_wp2_with fail
  refine (unhide T).mono ?_
  rintro e w1 ⟨v, rfl, own, bel⟩
  obtain ⟨a1, n1, c1, rfl⟩ : ∃ a n c, v = .slice a n c := by obtain ⟨a, c, e, _⟩ := own.rd; exact ⟨_, _, _, e⟩
  have Cn := hide ((unhide C).later bel)
  have Rn := hide ((unhide R).later bel)
  have O1 := hide (OwnN.base own (B' := w.heap.size + 2) (unhide C).sz)
  have On := hide ((unhide O0).later bel)
  have A01 : Hid (Ap ⟨a0, n0, c0⟩ ⟨a1, n1, c1⟩) := hide (ap_of (unhide O0) own (Nat.le_refl _))
  clear O0
  have O0 := hide (unhide On)
  clear On
  clear own bel T C R
  have o1 := row_r (unhide Cn).bx
  have f1 := row_fz (unhide Cn).bx 1
  have b6 := row_i (unhide Cn).bx
  have C := hide ((unhide Cn).put 1 (.slice a1 n1 c1) (⟨⟨a0, n0, c0⟩, ⟨a1, n1, c1⟩, x.n, x.z, x.v, x.c, x.i, x.o, x.st⟩ : Mv) rfl)
  have R := hide ((unhide Rn).setB (unhide HR) (Nat.le_refl _) 1 (.slice a1 n1 c1))
  have On := hide ((unhide O0).put (b := w.heap.size) (j := 1) (u := .slice a1 n1 c1) (by omega))
  clear O0
  have O0 := hide (unhide On)
  clear On
  have On := hide ((unhide O1).put (b := w.heap.size) (j := 1) (u := .slice a1 n1 c1) (by omega))
  clear O1
  have O1 := hide (unhide On)
  clear On
  have T := hide (copyN_any x.i d.i _ (unhide R).i (unhide R).il (unhide NZ).2.2.1 s2)
  clear Cn Rn
  go_wp2_with fail
  refine (unhide T).mono ?_
  rintro e w2 ⟨v, rfl, own, bel⟩
  obtain ⟨a2, n2, c2, rfl⟩ : ∃ a n c, v = .slice a n c := by obtain ⟨a, c, e, _⟩ := own.rd; exact ⟨_, _, _, e⟩
  have Cn := hide ((unhide C).later bel)
  have Rn := hide ((unhide R).later bel)
  have O2 := hide (OwnN.base own (B' := w.heap.size + 2) (unhide C).sz)
  have On := hide ((unhide O0).later bel)
  have A02 : Hid (Ap ⟨a0, n0, c0⟩ ⟨a2, n2, c2⟩) := hide (ap_of (unhide O0) own (Nat.le_refl _))
  clear O0
  have O0 := hide (unhide On)
  clear On
  have On := hide ((unhide O1).later bel)
  have A12 : Hid (Ap ⟨a1, n1, c1⟩ ⟨a2, n2, c2⟩) := hide (ap_of (unhide O1) own (Nat.le_refl _))
  clear O1
  have O1 := hide (unhide On)
  clear On
  clear own bel T C R
  have o6 := row_i (unhide Cn).bx
  have f6 := row_fz (unhide Cn).bx 6
  have b7 := row_o (unhide Cn).bx
  have C := hide ((unhide Cn).put 6 (.slice a2 n2 c2) (⟨⟨a0, n0, c0⟩, ⟨a1, n1, c1⟩, x.n, x.z, x.v, x.c, ⟨a2, n2, c2⟩, x.o, x.st⟩ : Mv) rfl)
  have R := hide ((unhide Rn).setB (unhide HR) (Nat.le_refl _) 6 (.slice a2 n2 c2))
  have On := hide ((unhide O0).put (b := w.heap.size) (j := 6) (u := .slice a2 n2 c2) (by omega))
  clear O0
  have O0 := hide (unhide On)
  clear On
  have On := hide ((unhide O1).put (b := w.heap.size) (j := 6) (u := .slice a2 n2 c2) (by omega))
  clear O1
  have O1 := hide (unhide On)
  clear On
  have On := hide ((unhide O2).put (b := w.heap.size) (j := 6) (u := .slice a2 n2 c2) (by omega))
  clear O2
  have O2 := hide (unhide On)
  clear On
  have T := hide (copyN_any x.o d.o _ (unhide R).o (unhide R).ol (unhide NZ).2.2.2 s3)
  clear Cn Rn
  go_wp2_with fail
  refine (unhide T).mono ?_
  rintro e w3 ⟨v, rfl, own, bel⟩
  obtain ⟨a3, n3, c3, rfl⟩ : ∃ a n c, v = .slice a n c := by obtain ⟨a, c, e, _⟩ := own.rd; exact ⟨_, _, _, e⟩
  have Cn := hide ((unhide C).later bel)
  have Rn := hide ((unhide R).later bel)
  have O3 := hide (OwnN.base own (B' := w.heap.size + 2) (unhide C).sz)
  have On := hide ((unhide O0).later bel)
  have A03 : Hid (Ap ⟨a0, n0, c0⟩ ⟨a3, n3, c3⟩) := hide (ap_of (unhide O0) own (Nat.le_refl _))
  clear O0
  have O0 := hide (unhide On)
  clear On
  have On := hide ((unhide O1).later bel)
  have A13 : Hid (Ap ⟨a1, n1, c1⟩ ⟨a3, n3, c3⟩) := hide (ap_of (unhide O1) own (Nat.le_refl _))
  clear O1
  have O1 := hide (unhide On)
  clear On
  have On := hide ((unhide O2).later bel)
  have A23 : Hid (Ap ⟨a2, n2, c2⟩ ⟨a3, n3, c3⟩) := hide (ap_of (unhide O2) own (Nat.le_refl _))
  clear O2
  have O2 := hide (unhide On)
  clear On
  clear own bel T C R
  have o7 := row_o (unhide Cn).bx
  have f7 := row_fz (unhide Cn).bx 7
  have C := hide ((unhide Cn).put 7 (.slice a3 n3 c3) (⟨⟨a0, n0, c0⟩, ⟨a1, n1, c1⟩, x.n, x.z, x.v, x.c, ⟨a2, n2, c2⟩, ⟨a3, n3, c3⟩, x.st⟩ : Mv) rfl)
  have On := hide ((unhide O0).put (b := w.heap.size) (j := 7) (u := .slice a3 n3 c3) (by omega))
  clear O0
  have O0 := hide (unhide On)
  clear On
  have On := hide ((unhide O1).put (b := w.heap.size) (j := 7) (u := .slice a3 n3 c3) (by omega))
  clear O1
  have O1 := hide (unhide On)
  clear On
  have On := hide ((unhide O2).put (b := w.heap.size) (j := 7) (u := .slice a3 n3 c3) (by omega))
  clear O2
  have O2 := hide (unhide On)
  clear On
  have On := hide ((unhide O3).put (b := w.heap.size) (j := 7) (u := .slice a3 n3 c3) (by omega))
  clear O3
  have O3 := hide (unhide On)
  clear On
  clear Cn Rn
  go_wp2_with (first | (refine wpList_load_row rfl 32 _ rfl w.heap.size rfl 32 (Mv.cs (⟨⟨a0, n0, c0⟩, ⟨a1, n1, c1⟩, x.n, x.z, x.v, x.c, ⟨a2, n2, c2⟩, ⟨a3, n3, c3⟩, x.st⟩ : Mv)) (0, 0) _ (unhide C).bx Tryd.underlying32 rfl (by kernel_rfl) ?_) | (refine wpList_store_row rfl 32 _ _ rfl (w.heap.size + 1) (Mv.cs (⟨⟨a0, n0, c0⟩, ⟨a1, n1, c1⟩, x.n, x.z, x.v, x.c, ⟨a2, n2, c2⟩, ⟨a3, n3, c3⟩, x.st⟩ : Mv)) rfl rfl 32 zMv.cs (unhide C).re (by kernel_rfl) rfl (Mv.cs_one _) ?_))
  refine bodyPost_ret (results_cell_row (P := Tryd.prog) rfl _ _ (w.heap.size + 1) 32 (Mv.cs (⟨⟨a0, n0, c0⟩, ⟨a1, n1, c1⟩, x.n, x.z, x.v, x.c, ⟨a2, n2, c2⟩, ⟨a3, n3, c3⟩, x.st⟩ : Mv)) (0, 0) _ rfl (unhide C).done.re Tryd.underlying32 rfl (by kernel_rfl)) rfl ?_
  exact ⟨(⟨⟨a0, n0, c0⟩, ⟨a1, n1, c1⟩, x.n, x.z, x.v, x.c, ⟨a2, n2, c2⟩, ⟨a3, n3, c3⟩, x.st⟩ : Mv), rfl, rfl, ⟨(unhide O0).row (by omega) _, (unhide O1).row (by omega) _, (unhide O2).row (by omega) _, (unhide O3).row (by omega) _, unhide A01, unhide A02, unhide A03, unhide A12, unhide A13, unhide A23⟩, (unhide C).done.bel⟩
end Go.Proofs.YtjpbjbnialehbaaDoor

namespace Go.Proofs.YtjpbjbnialehbaaDoor
open Go.ChangeShapes Go.WideShapes Go.ChangeAt Go.RowKit
set_option linter.unusedVariables false
set_option maxRecDepth 8000
set_option linter.unusedSimpArgs false
def z256 : List Int := List.replicate 256 0
theorem z256_len : z256.length = 256 := List.length_replicate ..
/-- The cells of a memory and a machine. -/
def bigA (mem : List Int) (y : Mv) : Array Value := (cellsN mem ++ y.cs.toList).toArray
theorem info60 : (Tryd.prog.info? 45).map (fun i => (i.zero, i.size)) = some (some (.agg (bigA z256 zMv)), 265) := by kernel_rfl
theorem built60 (y : Mv) : Tryd.prog.built 45 [(1, .agg y.cs)] = some (bigA z256 y) := by kernel_rfl
theorem bigA_size {mem : List Int} (y : Mv) (h : mem.length = 256) : (bigA mem y).size = 265 := by
  simp [bigA, cellsN_length, h, Mv.cs]
theorem bigA_one (mem : List Int) (y : Mv) : (bigA mem y).all (·.oneCell') = true := by
  rw [Array.all_eq_true_iff_forall_mem]
  intro v hv
  simp only [bigA, List.mem_toArray, List.mem_append] at hv
  rcases hv with hv | hv
  · exact cellsN_one _ v hv
  · exact Array.all_eq_true_iff_forall_mem.1 (Mv.cs_one y) v (by simpa using hv)
theorem bigA_mem {mem : List Int} (y : Mv) {j : Nat} (h : mem.length = 256) (hj : j < 256) : (bigA mem y)[j]? = some (.int .i64 (nAt mem j)) := by
  simp only [bigA, List.getElem?_toArray]
  rw [List.getElem?_append_left (by rw [cellsN_length]; omega)]
  simp [cellsN, nAt, List.getElem?_eq_getElem (show j < mem.length by omega)]
theorem bigA_mach {mem : List Int} (y : Mv) {k : Nat} (h : mem.length = 256) : (bigA mem y)[256 + k]? = y.cs[k]? := by
  simp only [bigA, List.getElem?_toArray]
  rw [List.getElem?_append_right (by rw [cellsN_length]; omega), cellsN_length, h]
  simp
theorem wpList_alloc60 {w : World} {ops : Array Oper} {rest : List Oper} {o : Oper} {a : Act} {Q : Exit → Act → World → Prop} (hgd : o.guard = none) (ho : o.op = .alloc 45)
    (h : wpList Tryd.prog ops Q rest (a.put o.dst (.pointer (some ⟨w.heap.size, 0, none⟩))) (w.alloc (.cells (bigA z256 zMv) 45))) : wpList Tryd.prog ops Q (o :: rest) a w := by
  have hz := (zero_of_info info60).1
  refine wpList_plain hgd fun K hK => ?_
  unfold Oper.wp execOp
  simp only [ho, Instr.alloc, hz, Sem.run_bind, Sem.run_pure, Result.andThen_ok]
  simp [go_sem]
  exact hK _ _ h
theorem wpList_build60 {w : World} {ops : Array Oper} {rest : List Oper} {o : Oper} {a : Act} {Q : Exit → Act → World → Prop} (hgd : o.guard = none) (x : Operand) (ho : o.op = .build 45 #[(1, x)]) (y : Mv) (hx : a.eval x = .agg y.cs)
    (h : wpList Tryd.prog ops Q rest (a.put o.dst (.agg (bigA z256 y))) w) : wpList Tryd.prog ops Q (o :: rest) a w := by
  refine wpList_buildTo hgd 45 _ ho _ rfl (bigA z256 y) ?_ h
  simp only [List.map_toArray, List.map_cons, List.map_nil, hx]
  exact built60 y
theorem size60 (y : Mv) (mem : List Int) (h : mem.length = 256) : (Tryd.prog.info? 45).map (·.size) = some (bigA mem y).size := by
  rw [bigA_size y h]
  kernel_rfl
/-- A memory and a machine stored whole into the row made last. -/
theorem wpList_store60 {w : World} {ops : Array Oper} {rest : List Oper} {o : Oper} {a : Act} {Q : Exit → Act → World → Prop} (hgd : o.guard = none) (x z : Operand) (ho : o.op = .store 45 x z) (mem : List Int) (y : Mv) (hm : mem.length = 256)
    (hx : a.eval x = .pointer (some ⟨w.heap.size, 0, none⟩)) (hy : a.eval z = .agg (bigA mem y)) (h : wpList Tryd.prog ops Q rest (a.put o.dst undef) (w.alloc (.cells (bigA mem y) 45))) : wpList Tryd.prog ops Q (o :: rest) a (w.alloc (.cells (bigA z256 zMv) 45)) :=
  wpList_store_new hgd 45 x z ho (bigA mem y) hx hy _ (size60 y mem hm) (by rw [bigA_size y hm, bigA_size zMv z256_len]) (bigA_one _ _) h
/-- A memory and a machine loaded whole. -/
theorem wpList_load60 {w : World} {ops : Array Oper} {rest : List Oper} {o : Oper} {a : Act} {Q : Exit → Act → World → Prop} (hgd : o.guard = none) (x : Operand) (ho : o.op = .load 45 x) (g : Nat) (mem : List Int) (y : Mv) (hm : mem.length = 256)
    (hx : a.eval x = .pointer (some ⟨g, 0, none⟩)) (hg : w.heap[g]? = some (.cells (bigA mem y) 45 (0, 0))) (h : wpList Tryd.prog ops Q rest (a.put o.dst (.agg (bigA mem y))) w) : wpList Tryd.prog ops Q (o :: rest) a w :=
  wpList_load_row hgd 45 x ho g hx 45 (bigA mem y) (0, 0) _ hg Tryd.underlying45 rfl (size60 y mem hm) h
/-- A memory and a machine stored whole into a row that holds one. -/
theorem wpList_over60 {w : World} {ops : Array Oper} {rest : List Oper} {o : Oper} {a : Act} {Q : Exit → Act → World → Prop} (hgd : o.guard = none) (x z : Operand) (ho : o.op = .store 45 x z) (g : Nat) (mem mem0 : List Int) (y y0 : Mv) (hm : mem.length = 256) (hm0 : mem0.length = 256)
    (hx : a.eval x = .pointer (some ⟨g, 0, none⟩)) (hy : a.eval z = .agg (bigA mem y)) (hg : w.heap[g]? = some (.cells (bigA mem0 y0) 45 (0, 0))) (h : wpList Tryd.prog ops Q rest (a.put o.dst undef) (w.setRow g (bigA mem y))) : wpList Tryd.prog ops Q (o :: rest) a w :=
  wpList_store_row hgd 45 x z ho g (bigA mem y) hx hy 45 (bigA mem0 y0) hg (size60 y mem hm) (by rw [bigA_size y hm, bigA_size y0 hm0]) (bigA_one _ _) h
theorem grownBy_setRow {w : World} {g : Nat} (cs : Array Value) : w.grownBy (w.setRow g cs) (some g) :=
  ⟨rfl, rfl, rfl, by simp [World.setRow], fun k _ hk => setRow_other w g k cs (fun e => hk (by rw [e]))⟩
theorem info3s : (Tryd.prog.info? 3).map (·.size) = some 1 := by kernel_rfl
/-- What a copy leaves: the first of the list over the memory. -/
def laidM (ns mem : List Int) : List Int := ns.take 256 ++ mem.drop ns.length
theorem laidM_len {ns mem : List Int} (h : mem.length = 256) : (laidM ns mem).length = 256 := by
  unfold laidM
  rw [List.length_append, List.length_take, List.length_drop, h]
  omega
theorem copy_in (s : Sl) (ns mem : List Int) (y : Mv) (g : Nat) (w : World) (hg : w.heap[g]? = some (.cells (bigA mem y) 45 (0, 0))) (hmem : mem.length = 256) (hr : RdN w s.a ns) (hl : ns.length = s.n) :
    ∃ (w' : World) (k : Int), (∀ ty, (Builtin.copy_ #[25, 25] ty #[.slice (some ⟨g, 0, none⟩) 256 256, .slice s.a s.n s.c]).run Tryd.prog w = .ok (.int .i64 k) w') ∧ w'.heap[g]? = some (.cells (bigA (laidM ns mem) y) 45 (0, 0)) ∧ w.grownBy w' (some g) := by
  by_cases h0 : ns = []
  · subst h0
    have hn : s.n = 0 := by simpa using hl.symm
    refine ⟨w, 0, fun ty => ?_, by simpa [laidM] using hg, World.grownBy.refl _ _⟩
    have := run_copy_none (P := Tryd.prog) w 25 25 ty 3 (some ⟨g, 0, none⟩) s.a 256 256 s.n s.c Tryd.underlying25 info3s (by rw [hn]; rfl)
    simpa [goInt] using this
  · rcases hr with h1 | ⟨b, off, ha, hb, hc⟩
    · exact absurd h1 h0
    have hrd : RdN w (some ⟨b, off, none⟩) (ns.take 256) := .inr ⟨b, off, rfl, hb, fun i hi => by
      have hi' : i < ns.length ∧ i < 256 := by simp at hi; omega
      rw [hc i hi'.1]
      congr 2
      unfold nAt
      rw [List.getD_eq_getElem?_getD, List.getD_eq_getElem?_getD, List.getElem?_take, if_pos hi'.2]⟩
    refine ⟨_, _, fun ty => by rw [ha]; exact run_copy_row (P := Tryd.prog) w 25 25 ty 3 g 0 256 256 ⟨b, off, none⟩ s.n s.c (bigA mem y) 45 (cellsN (ns.take 256)) Tryd.underlying25 info3s hg (by rw [cellsN_length, List.length_take, hl, Nat.min_comm]) (rdN_cells hrd) (by rw [cellsN_length, List.length_take, bigA_size y hmem]; omega) (cellsN_one _), ?_, grownBy_setRow _⟩
    rw [setRow_heap w g _ _ 45 _ hg]
    congr 2
    unfold bigA laidM
    congr 1
    rw [List.take_zero, List.nil_append, Nat.zero_add, cellsN_length, cellsN_append, List.append_assoc]
    congr 1
    rw [List.toList_toArray, List.drop_append]
    have e1 : (cellsN mem).drop (ns.take 256).length = cellsN (mem.drop ns.length) := by
      unfold cellsN
      rw [← List.map_drop]
      congr 1
      rw [List.length_take]
      by_cases h : ns.length ≤ 256
      · rw [Nat.min_eq_right h]
      · rw [List.drop_eq_nil_of_le (by omega), List.drop_eq_nil_of_le (by omega)]
    rw [e1, cellsN_length, show (ns.take 256).length - mem.length = 0 by rw [List.length_take]; omega]
    rfl
theorem copy_out (s : Sl) (ns mem : List Int) (y : Mv) (g B : Nat) (w : World) (hg : w.heap[g]? = some (.cells (bigA mem y) 45 (0, 0))) (hmem : mem.length = 256) (ho : OwnN w B s.v ns) :
    ∃ (w' : World) (k : Int), (∀ ty, (Builtin.copy_ #[25, 25] ty #[.slice s.a s.n s.c, .slice (some ⟨g, 0, none⟩) 256 256]).run Tryd.prog w = .ok (.int .i64 k) w') ∧ OwnN w' B s.v (mem.take ns.length ++ ns.drop 256) ∧ w.grownBy w' s.v.ownBlock := by
  have hlen := ho.len
  obtain ⟨h1, ⟨h2, h3⟩ | ⟨gm, cap, cur, e, hB, hh, hn, hm, hs, ht⟩⟩ := id ho
  · obtain rfl : ns = [] := List.eq_nil_of_length_eq_zero h3
    have hn : s.n = 0 := by simpa using hlen.symm
    refine ⟨w, 0, fun ty => ?_, by simpa using ho, World.grownBy.refl _ _⟩
    have := run_copy_none (P := Tryd.prog) w 25 25 ty 3 s.a (some ⟨g, 0, none⟩) s.n s.c 256 256 Tryd.underlying25 info3s (by rw [hn]; rfl)
    simpa [goInt] using this
  · obtain ⟨sa, sn, sc⟩ := s
    unfold Sl.v at e
    simp at e
    obtain ⟨rfl, hsn, rfl⟩ := e
    simp only at hlen
    have hrd : RdN w (some ⟨g, 0, none⟩) (mem.take ns.length) := .inr ⟨g, 0, rfl, row_lt hg, fun i hi => by
      have hi' : i < ns.length ∧ i < 256 := by simp at hi; omega
      rw [cell_of_row w g _ _ 45 _ hg, Nat.zero_add, bigA_mem y hmem hi'.2]
      congr 2
      unfold nAt
      rw [List.getD_eq_getElem?_getD, List.getD_eq_getElem?_getD, List.getElem?_take, if_pos hi'.1]⟩
    have hcl : (cellsN (mem.take ns.length)).length = Nat.min 256 sn := by rw [cellsN_length, List.length_take, hmem, hlen, Nat.min_comm]
    have hmn : Nat.min 256 sn ≤ sn := Nat.min_le_right _ _
    refine ⟨_, _, fun ty => run_copy_row (P := Tryd.prog) w 25 25 ty 3 gm 0 sn sc ⟨g, 0, none⟩ 256 256 cur 3 (cellsN (mem.take ns.length)) Tryd.underlying25 info3s hh hcl (rdN_cells hrd) (by rw [hcl]; omega) (cellsN_one _), ?_, grownBy_setRow _⟩
    have hL : (mem.take ns.length ++ ns.drop 256).length = ns.length := by rw [List.length_append, List.length_take, List.length_drop, hmem]; omega
    unfold OwnN
    rw [hL]
    refine ⟨by rw [cellsN_length, hL]; omega, .inr ⟨gm, sc, _, ?_, hB, setRow_heap w gm _ _ 3 _ hh, hn, hm, ?_, ?_⟩⟩
    · unfold Sl.v; simp [hsn]
    · simp only [List.size_toArray, List.length_append, List.length_take, List.length_drop, Array.length_toList, cellsN_length, hmem]
      omega
    · rw [List.toList_toArray, List.take_zero, List.nil_append, Nat.zero_add, cellsN_length, cellsN_append, Nat.mul_one]
      have hq : (mem.take ns.length).length = min 256 ns.length := by rw [List.length_take, hmem, Nat.min_comm]
      rw [List.take_append, cellsN_length, List.take_of_length_le (by rw [cellsN_length, hq]; omega)]
      congr 1
      rw [hq, List.take_drop]
      have e2 : min 256 ns.length + (ns.length - min 256 ns.length) = ns.length * 1 := by omega
      rw [e2, ht]
      unfold cellsN
      rw [← List.map_drop]
      congr 1
      by_cases h : ns.length ≤ 256
      · rw [Nat.min_eq_right h, List.drop_eq_nil_of_le (Nat.le_refl _), List.drop_eq_nil_of_le h]
      · rw [Nat.min_eq_left (by omega)]
end Go.Proofs.YtjpbjbnialehbaaDoor

namespace Go.Proofs.YtjpbjbnialehbaaDoor
open Go.ChangeShapes Go.WideShapes Go.ChangeAt Go.RowKit
set_option linter.unusedVariables false
set_option maxRecDepth 8000
set_option linter.unusedSimpArgs false
/-- While a machine is made: its box, the answer's place. -/
structure Mo (w wr : World) (x : Mv) : Prop where
  bx : wr.heap[w.heap.size]? = some (.cells x.cs 32 (0, 0))
  re : wr.heap[w.heap.size + 1]? = some (.cells (bigA z256 zMv) 45 (0, 0))
  bel : Below w.heap.size w wr
  sz : w.heap.size + 2 ≤ wr.heap.size
section
variable {w wr w' : World} {x : Mv}
theorem Mo.later (h : Mo w wr x) (hb : Below wr.heap.size wr w') : Mo w w' x :=
  ⟨row_lat h.bx hb, row_lat h.re hb, h.bel.trans (hb.mono (by have := h.bel.size; omega)), Nat.le_trans h.sz hb.size⟩
theorem Mo.past {g : Nat} (h : Mo w wr x) (hg : wr.grownBy w' (some g)) (hB : w.heap.size + 2 ≤ g) : Mo w w' x :=
  ⟨(hg.block _ (row_lt h.bx) (by simp; omega)).trans h.bx, (hg.block _ (row_lt h.re) (by simp; omega)).trans h.re, h.bel.grown hg h.bel.size (fun k e => by cases e; omega), Nat.le_trans h.sz hg.size⟩
theorem mo_new (w : World) (x : Mv) : Mo w ((w.alloc (.cells x.cs 32)).alloc (.cells (bigA z256 zMv) 45)) x := by
  have z1 : (w.alloc (.cells x.cs 32)).heap.size = w.heap.size + 1 := by simp
  have a1 := row_lat (heap_alloc_last w (.cells x.cs 32)) (below_new _ (.cells (bigA z256 zMv) 45))
  have a2 := heap_alloc_last (w.alloc (.cells x.cs 32)) (.cells (bigA z256 zMv) 45)
  rw [z1] at a2
  exact ⟨a1, a2, ((Below.refl _ _).alloc (Nat.le_refl _) _).alloc (by omega) _, by simp⟩
end
theorem OwnM.row {w : World} {B g : Nat} {x : Mv} {d : Md} (h : OwnM w B x d) (hb : g < B) (cs : Array Value) : OwnM (w.setRow g cs) B x d := h.keep fun j h1 _ => setRow_other w g j cs (by omega)
set_option maxHeartbeats 1000000 in
theorem machineOf_any (x : Mv) (d : Md) (w : World) (hs : x.small) (hz : x.nz) (hr : RdM w x d) : Calls Tryd.prog 17 #[.agg x.cs] w fun e w' => ∃ y : Mv, e = .returned (.agg (bigA (laidM d.m z256) y)) ∧ y.fl = x.fl ∧ OwnM w' (w.heap.size + 2) y d ∧ Below w.heap.size w w' := by
  have C := hide (mo_new w x)
  have R := hide (hr.later (unhide C).bel)
  have T := hide (copyM_any x d _ hs hz (unhide R))
  have HR := hide hr
  have z1 : (w.alloc (.cells x.cs 32)).heap.size = w.heap.size + 1 := by simp
  have Z1 := hide z1
  clear hr hs hz z1
  go_enter Tryd.func17, Tryd.ntmps17
  go_wp2_with (first | (refine wpList_alloc60 rfl rfl ?_) | (refine wpList_load_row rfl 32 _ rfl w.heap.size rfl 32 x.cs (0, 0) _ (unhide C).bx Tryd.underlying32 rfl (by kernel_rfl) ?_))
  refine (unhide T).mono ?_
  rintro e w1 ⟨y, rfl, fy, oy, hb⟩
  have C1 := hide (((unhide C).later hb).later (below_new w1 (.cells (bigA z256 y) 45)))
  have R1 := hide (((unhide R).later hb).later (below_new w1 (.cells (bigA z256 y) 45)))
  have O1 := hide (oy.base (C := w.heap.size + 2) (by have := (unhide C).sz; omega))
  have hsz := hide (Nat.le_trans (unhide C).sz hb.size)
  have FY := hide fy
  clear C R T hb fy oy
  have hrow := hide (heap_alloc_last w1 (.cells (bigA z256 y) 45))
  obtain ⟨w2, k, hcp, hr2, hg2⟩ := copy_in x.m d.m z256 y w1.heap.size (w1.alloc (.cells (bigA z256 y) 45)).drew (unhide hrow) z256_len ((unhide R1).later below_drew).m (unhide R1).ml
  have C2 := hide (((unhide C1).later below_drew).past hg2 (unhide hsz))
  have O2 := hide ((unhide O1).keep (w' := w2) (fun g h1 h2 => (hg2.block g (Nat.lt_of_lt_of_le h2 (below_new w1 (.cells (bigA z256 y) 45)).size) (by simp; omega)).trans ((below_new w1 (.cells (bigA z256 y) 45)).block g h2)))
  have R2 := hide hr2
  clear R1 O1 hr2 hg2
  have c0 := row_m ((unhide C1).later below_drew).bx
  have CP := hide hcp
  have D0 := hide c0
  clear hcp c0
  go_wp2_with (first | (refine wpList_build60 rfl _ rfl y rfl ?_) | (refine wpList_alloc60 rfl rfl ?_) | (refine wpList_store60 rfl _ _ rfl z256 y z256_len rfl rfl ?_))
  refine wp_region_held_drew (S := fun w' => w'.cell? ⟨w.heap.size, 0, none⟩ = some (.slice x.m.a x.m.n x.m.c)) (by kernel_rfl) (unhide D0) (fun hS => ?_)
  have HS := hide hS
  clear hS
  go_simp
  refine wpAnyH_take (i := 0) (v := .pointer (some ⟨w1.heap.size, 0, none⟩)) rfl (by kernel_rfl) (by kernel_rfl) (by kernel_rfl) (fun _ _ _ h => h) (Or.inl ⟨by rfl, fun w _ => ?_⟩) (unhide HS) ?_
  · go_simp
  go_simp
  refine wpAnyH_take (i := 1) (v := .slice (some ⟨w1.heap.size, 0, none⟩) 256 256) rfl (by kernel_rfl) (by kernel_rfl) (by kernel_rfl) (fun _ _ _ h => h) (Or.inl ⟨by rfl, fun w _ => ?_⟩) (unhide HS) ?_
  · go_simp
  go_simp
  refine wpAnyH_take (i := 2) (v := .pointer (some ⟨w.heap.size, 0, none⟩)) rfl (by kernel_rfl) (by kernel_rfl) (by kernel_rfl) (fun _ _ _ h => h) (Or.inl ⟨by rfl, fun w _ => ?_⟩) (unhide HS) ?_
  · go_simp
  go_simp
  refine wpAnyH_take (i := 3) (v := .slice x.m.a x.m.n x.m.c) rfl (by kernel_rfl) (by kernel_rfl) (by kernel_rfl) (fun _ _ _ h => h) (Or.inl ⟨by rfl, fun w hc => ?_⟩) (unhide HS) ?_
  · go_simp
  go_simp
  refine wpAnyH_ready (rs := [4]) (by kernel_rfl) (by simp) ?_
  refine AllReadyH.cons rfl (fun K hK => ?_) AllReadyH.nil
  have hcp := unhide CP
  go_simp
  refine hK.out _ _ (row_m (unhide C2).bx) (fun _ => ?_)
  clear hK K hcp CP D0 HS hrow C1
  refine wpAnyH_done (by kernel_rfl) ?_ _
  go_wp2_with (first | (refine wpList_load60 rfl _ rfl w1.heap.size (laidM d.m z256) y (laidM_len z256_len) rfl (unhide R2) ?_) | (refine wpList_over60 rfl _ _ rfl (w.heap.size + 1) (laidM d.m z256) z256 y zMv (laidM_len z256_len) z256_len rfl rfl (unhide C2).re ?_))
  refine bodyPost_ret (results_cell_row (P := Tryd.prog) rfl _ _ (w.heap.size + 1) 45 (bigA (laidM d.m z256) y) (0, 0) _ rfl (setRow_heap w2 _ _ _ 45 _ (unhide C2).re) Tryd.underlying45 rfl (size60 y _ (laidM_len z256_len))) rfl ?_
  exact ⟨y, rfl, unhide FY, (unhide O2).row (by omega) _, below_setRow (unhide C2).bel (by omega) _⟩
set_option maxHeartbeats 1000000 in
theorem cell_at (g : Nat) (a : Int) (w : World) (h0 : 0 ≤ a) (h1 : a < 512) :
    Calls Tryd.prog 46 #[.pointer (some ⟨g, 0, none⟩), .int .i64 a] w fun e w' => e = .returned (.pointer (some ⟨g, (a / 2).toNat, none⟩)) ∧ w' = w := by
  obtain ⟨k, hk⟩ := Int.eq_ofNat_of_zero_le (show 0 ≤ a / 2 by omega)
  have hk2 : k < 256 := by omega
  rw [hk, show ((k : Int)).toNat = k by omega]
  have HK := hide hk
  go_enter Tryd.func46, Tryd.ntmps46
  go_wp2
  go_ret
  exact ⟨rfl, rfl⟩
end Go.Proofs.YtjpbjbnialehbaaDoor

namespace Go.Proofs.YtjpbjbnialehbaaDoor
open Go.ChangeShapes Go.WideShapes Go.ChangeAt Go.RowKit
set_option linter.unusedVariables false
set_option maxRecDepth 8000
set_option linter.unusedSimpArgs false
/-- Is it an address? -/
def adB (a : Int) : Bool := inB a 0 510 && (a % 2 == 0)
theorem adB_t {a : Int} (h : adB a = true) : 0 ≤ a ∧ a ≤ 510 ∧ a % 2 = 0 := by
  unfold adB inB at h
  simp at h
  omega
theorem adB_f {a : Int} (h : a < 0 ∨ 511 ≤ a ∨ a % 2 ≠ 0) : adB a = false := by
  cases hb : adB a
  · rfl
  · have := adB_t hb; omega
theorem adB_i {a : Int} (h0 : 0 ≤ a) (h1 : a ≤ 510) (h2 : a % 2 = 0) : adB a = true := by
  unfold adB inB
  simp
  omega
/-- Has it a word there? -/
def Md.has (d : Md) (a : Int) : Bool := adB a && decide (a / 2 < (d.m.length : Int))
def Md.get (d : Md) (a : Int) : Int := if d.has a = true then nAt d.m (a / 2).toNat else 0
theorem has_t {d : Md} {a : Int} (h : d.has a = true) : adB a = true ∧ a / 2 < (d.m.length : Int) := by
  unfold Md.has at h
  simpa using h
set_option maxHeartbeats 1000000 in
theorem isAddr_any (a : Int) (w : World) : Calls Tryd.prog 14 #[.int .i64 a] w fun e w' => e = .returned (.bool (adB a)) ∧ w' = w := by
  by_cases h0 : 0 ≤ a
  · by_cases h1 : a < 512
    · cases h2 : (a % 2 == 0)
      · have F := hide (adB_f (a := a) (.inr (.inr (by simpa using h2))))
        go_enter Tryd.func14, Tryd.ntmps14
        go_wp2
        go_ret
        exact ⟨ret_bool (unhide F).symm, rfl⟩
      · have e2 : a % 2 = 0 := by simpa using h2
        have F := hide (adB_i h0 (by omega) e2)
        clear e2
        go_enter Tryd.func14, Tryd.ntmps14
        go_wp2
        go_ret
        exact ⟨ret_bool (unhide F).symm, rfl⟩
    · have F := hide (adB_f (a := a) (.inr (.inl (by omega))))
      go_enter Tryd.func14, Tryd.ntmps14
      go_wp2
      go_ret
      exact ⟨ret_bool (unhide F).symm, rfl⟩
  · have F := hide (adB_f (a := a) (.inl (by omega)))
    go_enter Tryd.func14, Tryd.ntmps14
    go_wp2
    go_ret
    exact ⟨ret_bool (unhide F).symm, rfl⟩
set_option maxHeartbeats 1000000 in
theorem has_any (x : Mv) (d : Md) (a : Int) (w : World) (hl : d.m.length = x.m.n) (hs : x.m.n ≤ 1048576) : Calls Tryd.prog 92 #[.agg x.cs, .int .i64 a] w fun e w' => e = .returned (.bool (d.has a)) ∧ Below w.heap.size w w' := by
  have HB := hide ((Below.refl w.heap.size w).alloc (Nat.le_refl _) (.cells x.cs 32))
  have c0 : x.cs[0]? = some (.slice x.m.a x.m.n x.m.c) := rfl
  have I := hide (fun w => isAddr_any a w)
  unfold Md.has
  rw [hl]
  have T := hide (adB_t (a := a))
  generalize adB a = q at I T ⊢
  cases q
  · go_enter Tryd.func92, Tryd.ntmps92
    go_wp2_with (go_at_call 14; refine (unhide I _).mono ?_; rintro e w' ⟨rfl, rfl⟩)
    go_ret
    exact ⟨rfl, unhide HB⟩
  · obtain ⟨t0, t1, _⟩ := unhide T (by trivial)
    go_enter Tryd.func92, Tryd.ntmps92
    go_wp2_with (go_at_call 14; refine (unhide I _).mono ?_; rintro e w' ⟨rfl, rfl⟩)
    go_ret
    exact ⟨rfl, unhide HB⟩
end Go.Proofs.YtjpbjbnialehbaaDoor

namespace Go.Proofs.YtjpbjbnialehbaaDoor
open Go.ChangeShapes Go.WideShapes Go.ChangeAt Go.RowKit
set_option linter.unusedVariables false
set_option maxRecDepth 8000
set_option linter.unusedSimpArgs false
/-- Is there such a place. -/
def Md.ldB (d : Md) (r a : Int) : Bool := if r = -1 then d.has a else (inB r 0 ((d.r.length : Int) - 1) && (a == -1))
/-- What stands there. -/
def Md.ldV (d : Md) (r a : Int) : Int := if r = -1 then d.get a else if d.ldB r a = true then nAt d.r r.toNat else 0
end Go.Proofs.YtjpbjbnialehbaaDoor

namespace Go.Proofs.YtjpbjbnialehbaaDoor
open Go.ChangeShapes Go.WideShapes Go.ChangeAt Go.RowKit
set_option linter.unusedVariables false
set_option maxRecDepth 8000
set_option linter.unusedSimpArgs false
theorem bigA_set {mem : List Int} (y : Mv) (k : Nat) (v : Int) (hm : mem.length = 256) (hk : k < 256) : (bigA mem y).setIfInBounds k (.int .i64 v) = bigA (mem.set k v) y := by
  unfold bigA
  rw [List.setIfInBounds_toArray, List.set_append_left _ _ (by rw [cellsN_length]; omega)]
  congr 2
  unfold cellsN
  rw [List.map_set]
theorem quo2 {a : Int} {k : Nat} (h0 : 0 ≤ a) (h1 : a < 9223372036854775807) (hk : a / 2 = (k : Int)) : IntKind.i64.wrap (a.tdiv 2) = (k : Int) := by
  rw [Int.tdiv_eq_ediv_of_nonneg h0, IntKind.wrap_i64]
  omega
set_option maxHeartbeats 1000000 in
theorem setWord_any (g : Nat) (a n : Int) (mem : List Int) (y : Mv) (w : World) (h0 : 0 ≤ a) (h1 : a < 512) (hm : mem.length = 256) (hg : w.heap[g]? = some (.cells (bigA mem y) 45 (0, 0))) :
    Calls Tryd.prog 30 #[.pointer (some ⟨g, 0, none⟩), .int .i64 a, .int .i64 n] w fun e w' => e = .returned (.tuple #[]) ∧ w'.heap[g]? = some (.cells (bigA (mem.set (a / 2).toNat (n % 65536)) y) 45 (0, 0)) ∧ w.grownBy w' (some g) := by
  obtain ⟨k, hk⟩ := Int.eq_ofNat_of_zero_le (show 0 ≤ a / 2 by omega)
  have hk2 : k < 256 := by omega
  have hc : w.cell? ⟨g, k, none⟩ = some (.int .i64 (nAt mem k)) := (cell_of_row w g k _ 45 _ hg).trans (bigA_mem y hm hk2)
  have hf : w.frozen? ⟨g, k, none⟩ = false := by simp [World.frozen?, hg]
  rw [hk, show ((k : Int)).toNat = k by omega]
  have E1 := hide ((show (w.setCell ⟨g, k, none⟩ (.int .i64 (n % 65536))).heap[g]? = some (.cells (bigA (mem.set k (n % 65536)) y) 45 (0, 0)) by rw [setCell_eq_setRow w g k _ 45 (0, 0) _ hg, bigA_set y k _ hm hk2]; exact setRow_heap w g _ _ 45 _ hg))
  have E2 := hide (grownBy_set (w := w) (b := g) (o := k) (.int .i64 (n % 65536)))
  have WR := hide (fun w => wrapI_any n w)
  generalize n % 65536 = q at E1 E2 WR ⊢
  have CL := hide (fun w => cell_at g a w h0 h1)
  rw [hk, show ((k : Int)).toNat = k by omega] at CL
  clear hg hk
  go_enter Tryd.func30, Tryd.ntmps30
  go_wp2_with fail
  refine (unhide CL _).mono ?_
  rintro e w' ⟨rfl, rfl⟩
  go_wp2_with fail
  refine (unhide WR _).mono ?_
  rintro e w' ⟨rfl, rfl⟩
  go_wp2
  go_end0
  exact ⟨rfl, unhide E1, unhide E2⟩
end Go.Proofs.YtjpbjbnialehbaaDoor
