/- Contracts over this seat's translation, laid together; conditions stand as hypotheses of each. -/
import Derived.Test.YtkolflcjkofleaaDoorTxA
import Derived.Test.YtkolflcjkofleaaDoorTxB
import Derived.Laws.OwnMore
import Derived.Laws.Rows
import Derived.Lib.Builder
import Derived.Deep.RegionHeld
import Derived.LoopN
import Derived.Laws.BitsAllLaws
import Derived.Deep.RegionWith

namespace Go.Proofs.YtkolflcjkofleaaDoor
open Go.ChangeShapes Go.WideShapes Go.ChangeAt Go.RowKit
set_option linter.unusedVariables false
set_option maxRecDepth 8000

/-- The parts of a term lie at a, each list in a whole block of cells that is not frozen; F: the blocks. -/
def OwX (w : World) : Ex → Option Addr → List Nat → Prop
  | ⟨_, _, _, l⟩, a, F => (l = [] ∧ F = []) ∨ ∃ (b : Nat) (cs : Array Value) (t : TypeId) (Fs : List (List Nat)), a = some ⟨b, 0, none⟩ ∧ w.heap[b]? = some (.cells cs t (0, 0)) ∧ l.length * 4 ≤ cs.size ∧ Fs.length = l.length ∧ F = b :: Fs.flatten ∧ ∀ x ∈ l, ∀ i, l[i]? = some x → cs[i * 4]? = some (.int .i64 x.k) ∧ cs[i * 4 + 1]? = some (.int .i64 x.n) ∧ cs[i * 4 + 2]? = some (.string x.s) ∧ ∃ c cap, cs[i * 4 + 3]? = some (.slice c x.l.length cap) ∧ OwX w x c (Fs.getD i [])
/-- One part in a row, owned. -/
def OwOne (w : World) (cs : Array Value) (i : Nat) (x : Ex) (F : List Nat) : Prop := cs[i * 4]? = some (.int .i64 x.k) ∧ cs[i * 4 + 1]? = some (.int .i64 x.n) ∧ cs[i * 4 + 2]? = some (.string x.s) ∧ ∃ c cap, cs[i * 4 + 3]? = some (.slice c x.l.length cap) ∧ OwX w x c F
theorem OwX_eq (w : World) (e : Ex) (a : Option Addr) (F : List Nat) : OwX w e a F ↔ ((e.l = [] ∧ F = []) ∨ ∃ (b : Nat) (cs : Array Value) (t : TypeId) (Fs : List (List Nat)), a = some ⟨b, 0, none⟩ ∧ w.heap[b]? = some (.cells cs t (0, 0)) ∧ e.l.length * 4 ≤ cs.size ∧ Fs.length = e.l.length ∧ F = b :: Fs.flatten ∧ ∀ i, i < e.l.length → OwOne w cs i (xAt e.l i) (Fs.getD i [])) := by
  obtain ⟨k, n, s, l⟩ := e
  rw [OwX]
  refine or_congr Iff.rfl (exists_congr fun b => exists_congr fun cs => exists_congr fun t => exists_congr fun Fs => and_congr Iff.rfl (and_congr Iff.rfl (and_congr Iff.rfl (and_congr Iff.rfl (and_congr Iff.rfl ⟨fun h i hi => ?_, fun h x hx i hi => ?_⟩)))))
  · exact h _ (xAt_mem hi) i (by rw [xAt_get hi]; exact List.getElem?_eq_getElem hi)
  · obtain ⟨hl, e⟩ := List.getElem?_eq_some_iff.1 hi
    have := h i hl
    rw [xAt_get hl, e] at this
    exact this
theorem getD_flat {Fs : List (List Nat)} {i : Nat} {b : Nat} (h : b ∈ Fs.getD i []) : b ∈ Fs.flatten := by
  rw [List.getD_eq_getElem?_getD] at h
  by_cases hi : i < Fs.length
  · rw [List.getElem?_eq_getElem hi] at h
    exact List.mem_flatten.2 ⟨_, List.getElem_mem hi, h⟩
  · rw [List.getElem?_eq_none (by omega)] at h
    cases h
theorem OwX.keep {w w' : World} (e : Ex) : ∀ a F, (∀ b ∈ F, w'.heap[b]? = w.heap[b]?) → OwX w e a F → OwX w' e a F := by
  induction e using Ex.ind with
  | h k n s l ih =>
    intro a F hk h
    rw [OwX_eq] at h ⊢
    rcases h with h | ⟨b, cs, t, Fs, ha, hh, hz, hF, rfl, h3⟩
    · exact .inl h
    · refine .inr ⟨b, cs, t, Fs, ha, (hk b List.mem_cons_self).trans hh, hz, hF, rfl, fun i hi => ?_⟩
      obtain ⟨c1, c2, c3, c, cap, c4, c5⟩ := h3 i hi
      exact ⟨c1, c2, c3, c, cap, c4, ih _ (xAt_mem hi) _ _ (fun b hb => hk b (List.mem_cons_of_mem _ (getD_flat hb))) c5⟩
theorem OwX.lt {w : World} (e : Ex) : ∀ a F, OwX w e a F → ∀ b ∈ F, b < w.heap.size := by
  induction e using Ex.ind with
  | h k n s l ih =>
    intro a F h
    rw [OwX_eq] at h
    rcases h with ⟨_, rfl⟩ | ⟨b, cs, t, Fs, ha, hh, hz, hF, rfl, h3⟩
    · intro b hb; cases hb
    · intro x hx
      rcases List.mem_cons.1 hx with rfl | hx
      · exact (Array.getElem?_eq_some_iff.1 hh).1
      · obtain ⟨G, hG, hx⟩ := List.mem_flatten.1 hx
        obtain ⟨i, hi, rfl⟩ := List.getElem_of_mem hG
        have hi2 : i < l.length := hF ▸ hi
        obtain ⟨c1, c2, c3, c, cap, c4, c5⟩ := h3 i hi2
        rw [List.getD_eq_getElem?_getD, List.getElem?_eq_getElem hi] at c5
        exact ih _ (xAt_mem hi2) _ _ c5 _ hx
theorem OwX.later {w w' : World} {e : Ex} {a : Option Addr} {F : List Nat} (h : OwX w e a F) (hb : Below w.heap.size w w') : OwX w' e a F :=
  OwX.keep e a F (fun b hF => hb.block b (OwX.lt e a F h b hF)) h
theorem OwX.rd {w : World} {B : Nat} (e : Ex) : ∀ a F, (∀ b ∈ F, B ≤ b) → OwX w e a F → RdX w B e a := by
  induction e using Ex.ind with
  | h k n s l ih =>
    intro a F hB h
    rw [OwX_eq] at h
    rw [RdX_eq]
    rcases h with h | ⟨b, cs, t, Fs, ha, hh, hz, hF, rfl, h3⟩
    · exact .inl h.1
    · refine .inr ⟨b, 0, ha, hB b List.mem_cons_self, (Array.getElem?_eq_some_iff.1 hh).1, fun i hi => ?_⟩
      obtain ⟨c1, c2, c3, c, cap, c4, c5⟩ := h3 i hi
      unfold OneX
      simp only [Nat.zero_add]
      exact ⟨(Lib.cell_of_heap hh _).trans c1, (Lib.cell_of_heap hh _).trans c2, (Lib.cell_of_heap hh _).trans c3, c, cap, (Lib.cell_of_heap hh _).trans c4, ih _ (xAt_mem hi) _ _ (fun b hb => hB b (List.mem_cons_of_mem _ (getD_flat hb))) c5⟩
/-- The parts of a term lie at a, in blocks of its own from B on, no two the same. -/
def NewX (w : World) (B : Nat) (e : Ex) (a : Option Addr) : Prop := ∃ F, OwX w e a F ∧ F.Nodup ∧ ∀ b ∈ F, B ≤ b
section
variable {w w' : World} {B C : Nat} {e : Ex} {a : Option Addr}
theorem NewX.rd (h : NewX w B e a) : RdX w B e a := by obtain ⟨F, h1, _, h3⟩ := h; exact OwX.rd e a F h3 h1
theorem NewX.later (h : NewX w B e a) (hb : Below w.heap.size w w') : NewX w' B e a := by obtain ⟨F, h1, h2, h3⟩ := h; exact ⟨F, h1.later hb, h2, h3⟩
theorem NewX.lower (h : NewX w B e a) (hC : C ≤ B) : NewX w C e a := by obtain ⟨F, h1, h2, h3⟩ := h; exact ⟨F, h1, h2, fun b hb => Nat.le_trans hC (h3 b hb)⟩
theorem NewX.far (h : NewX w B e a) (p : Addr) (v : Value) (hp : p.block < B) : NewX (w.setCell p v) B e a := by
  obtain ⟨F, h1, h2, h3⟩ := h
  exact ⟨F, OwX.keep e a F (fun b hb => heap_setCell_other w p b v (by have := h3 b hb; omega)) h1, h2, h3⟩
theorem NewX.nil (w : World) (B : Nat) (k n : Int) (s : ByteArray) (a : Option Addr) : NewX w B ⟨k, n, s, []⟩ a := ⟨[], (OwX_eq _ _ _ _).2 (.inl ⟨rfl, rfl⟩), List.nodup_nil, fun b hb => by cases hb⟩
end
end Go.Proofs.YtkolflcjkofleaaDoor

namespace Go.Proofs.YtkolflcjkofleaaDoor
open Go.ChangeShapes Go.WideShapes Go.ChangeAt Go.RowKit
set_option linter.unusedVariables false
set_option maxRecDepth 8000

theorem infoX : (Tryd.prog.info? 26).map (fun i => (i.zero, i.size, i.bytes)) = some (some (.agg #[.int .i64 0, .int .i64 0, .string ⟨#[]⟩, .slice none 0 0]), 4, 56) := by kernel_rfl
theorem sz_part {l : List Ex} {i : Nat} (h : i < l.length) : (xAt l i).sz ≤ szX l := by
  have h1 := szX_take l i h
  have h2 := szX_le l (i + 1)
  omega
/-- One part in a list of cells, owned. -/
def OwIn (w : World) (cs : List Value) (i : Nat) (x : Ex) (F : List Nat) : Prop := cs[i * 4]? = some (.int .i64 x.k) ∧ cs[i * 4 + 1]? = some (.int .i64 x.n) ∧ cs[i * 4 + 2]? = some (.string x.s) ∧ ∃ c cap, cs[i * 4 + 3]? = some (.slice c x.l.length cap) ∧ OwX w x c F
theorem OwIn.keep {w w' : World} {cs : List Value} {i : Nat} {x : Ex} {F : List Nat} (h : OwIn w cs i x F) (hk : ∀ b ∈ F, w'.heap[b]? = w.heap[b]?) : OwIn w' cs i x F := by
  obtain ⟨h0, h1, h2, c, cap, h3, h4⟩ := h
  exact ⟨h0, h1, h2, c, cap, h3, OwX.keep _ _ _ hk h4⟩
/-- A row of cells at a block of its own, as it lies. -/
theorem ownsRow_heap {w : World} {B g n cap size : Nat} {t : TypeId} {cs : List Value} (h : w.ownsRow B t size (.slice (some ⟨g, 0, none⟩) n cap) n cs) : ∃ cur : Array Value, w.heap[g]? = some (.cells cur t (0, 0)) ∧ n * size ≤ cur.size ∧ ∀ j, j < n * size → cur[j]? = cs[j]? := by
  obtain ⟨h1, ⟨e, _⟩ | ⟨g', cap', cur, e, hg, hh, hn, hm, hz, ht⟩⟩ := h
  · cases e
  · cases e
    refine ⟨cur, hh, by rw [hz]; exact Nat.mul_le_mul_right _ hn, fun j hj => ?_⟩
    rw [← ht, List.getElem?_take, if_pos hj, Array.getElem?_toList]
/-- So many parts lie in the row of block g, each in blocks of its own between g and M. -/
def DoneX (w : World) (g : Nat) (l : List Ex) (n cap k M : Nat) : Prop := ∃ (cs : List Value) (Fs : List (List Nat)), w.ownsRow g 26 4 (.slice (some ⟨g, 0, none⟩) n cap) n cs ∧ Fs.length = k ∧ Fs.flatten.Nodup ∧ (∀ b ∈ Fs.flatten, g < b ∧ b < M) ∧ ∀ i, i < k → OwIn w cs i (xAt l i) (Fs.getD i [])
theorem ownsRow_later {w w' : World} {B g n cap m : Nat} {t : TypeId} {cs : List Value} (h : w.ownsRow B t m (.slice (some ⟨g, 0, none⟩) n cap) n cs) (hb : Below w.heap.size w w') : w'.ownsRow B t m (.slice (some ⟨g, 0, none⟩) n cap) n cs := by
  obtain ⟨h1, h2 | ⟨g, cap, cur, e, hg, hh, r⟩⟩ := h
  · exact ⟨h1, .inl h2⟩
  · exact ⟨h1, .inr ⟨g, cap, cur, e, hg, (hb.block g (Array.getElem?_eq_some_iff.1 hh).1).trans hh, r⟩⟩
theorem OwIn.lt {w : World} {cs : List Value} {i : Nat} {x : Ex} {F : List Nat} (h : OwIn w cs i x F) : ∀ b ∈ F, b < w.heap.size := by
  obtain ⟨_, _, _, c, cap, _, h⟩ := h
  exact OwX.lt _ _ _ h
theorem DoneX.later {w w' : World} {g n cap k M : Nat} {l : List Ex} (h : DoneX w g l n cap k M) (hb : Below w.heap.size w w') : DoneX w' g l n cap k M := by
  obtain ⟨cs, Fs, h1, h2, h3, h4, h5⟩ := h
  exact ⟨cs, Fs, ownsRow_later h1 hb, h2, h3, h4, fun i hi => (h5 i hi).keep fun b hF => hb.block b ((h5 i hi).lt b hF)⟩
theorem flat_snoc (Fs : List (List Nat)) (F : List Nat) : (Fs ++ [F]).flatten = Fs.flatten ++ F := by simp
theorem getD_snoc_lt {Fs : List (List Nat)} {F : List Nat} {i : Nat} (h : i < Fs.length) : (Fs ++ [F]).getD i [] = Fs.getD i [] := by
  rw [List.getD_eq_getElem?_getD, List.getD_eq_getElem?_getD, List.getElem?_append_left h]
theorem getD_snoc_eq {Fs : List (List Nat)} {F : List Nat} {i : Nat} (h : i = Fs.length) : (Fs ++ [F]).getD i [] = F := by
  rw [List.getD_eq_getElem?_getD, h, List.getElem?_append_right (Nat.le_refl _)]
  simp
theorem nodup_snoc {a b : List Nat} {M : Nat} (ha : a.Nodup) (hb : b.Nodup) (h1 : ∀ x ∈ a, x < M) (h2 : ∀ x ∈ b, M ≤ x) : (a ++ b).Nodup := by
  rw [List.nodup_append]
  exact ⟨ha, hb, fun x hx y hy e => by have := h1 x hx; have := h2 y hy; omega⟩
theorem DoneX.put {w : World} {g n cap k M M' : Nat} {l : List Ex} (h : DoneX w g l n cap k M) (hk : k < n) (hg : g < M) (hM : M ≤ M') (c : Option Addr) (cp : Nat) (hr : NewX w M (xAt l k) c) (hz : w.heap.size ≤ M') :
    DoneX ((((w.setCell ⟨g, k * 4, none⟩ (.int .i64 (xAt l k).k)).setCell ⟨g, k * 4 + 1, none⟩ (.int .i64 (xAt l k).n)).setCell ⟨g, k * 4 + 2, none⟩ (.string (xAt l k).s)).setCell ⟨g, k * 4 + 3, none⟩ (.slice c (xAt l k).l.length cp)) g l n cap (k + 1) M' := by
  obtain ⟨cs, Fs, h1, h2, h3, h4, h5⟩ := h
  obtain ⟨F, q1, q2, q3⟩ := hr
  have hlen : cs.length = n * 4 := h1.1
  have s1 := (World.ownsRow.stored h1 (k * 4) (.int .i64 (xAt l k).k)).1
  have s2 := (World.ownsRow.stored s1 (k * 4 + 1) (.int .i64 (xAt l k).n)).1
  have s3 := (World.ownsRow.stored s2 (k * 4 + 2) (.string (xAt l k).s)).1
  have s4 := (World.ownsRow.stored s3 (k * 4 + 3) (.slice c (xAt l k).l.length cp)).1
  have hkeep : ∀ b, g < b → ((((w.setCell ⟨g, k * 4, none⟩ (.int .i64 (xAt l k).k)).setCell ⟨g, k * 4 + 1, none⟩ (.int .i64 (xAt l k).n)).setCell ⟨g, k * 4 + 2, none⟩ (.string (xAt l k).s)).setCell ⟨g, k * 4 + 3, none⟩ (.slice c (xAt l k).l.length cp)).heap[b]? = w.heap[b]? := fun b hb => by
    rw [heap_setCell_other _ _ _ _ (by show b ≠ g; omega), heap_setCell_other _ _ _ _ (by show b ≠ g; omega), heap_setCell_other _ _ _ _ (by show b ≠ g; omega), heap_setCell_other _ _ _ _ (by show b ≠ g; omega)]
  refine ⟨_, Fs ++ [F], s4, by simp [h2], ?_, ?_, fun i hi => ?_⟩
  · rw [flat_snoc]
    exact nodup_snoc h3 q2 (fun x hx => (h4 x hx).2) q3
  · rw [flat_snoc]
    intro b hb
    rcases List.mem_append.1 hb with hb | hb
    · have := h4 b hb; exact ⟨this.1, by omega⟩
    · have := q3 b hb
      have := OwX.lt _ _ _ q1 b hb
      exact ⟨by omega, by omega⟩
  · by_cases hik : i = k
    · subst hik
      rw [getD_snoc_eq h2.symm]
      refine ⟨?_, ?_, ?_, c, cp, ?_, OwX.keep _ _ _ (fun b hb => hkeep b (by have := q3 b hb; omega)) q1⟩
      · rw [List.getElem?_set_ne (by omega), List.getElem?_set_ne (by omega), List.getElem?_set_ne (by omega), List.getElem?_set_self (by omega)]
      · rw [List.getElem?_set_ne (by omega), List.getElem?_set_ne (by omega), List.getElem?_set_self (by simp; omega)]
      · rw [List.getElem?_set_ne (by omega), List.getElem?_set_self (by simp; omega)]
      · rw [List.getElem?_set_self (by simp; omega)]
    · rw [getD_snoc_lt (by omega)]
      obtain ⟨p0, p1, p2, c', cap', p3, p4⟩ := (h5 i (by omega)).keep (w' := ((((w.setCell ⟨g, k * 4, none⟩ (.int .i64 (xAt l k).k)).setCell ⟨g, k * 4 + 1, none⟩ (.int .i64 (xAt l k).n)).setCell ⟨g, k * 4 + 2, none⟩ (.string (xAt l k).s)).setCell ⟨g, k * 4 + 3, none⟩ (.slice c (xAt l k).l.length cp))) (fun b hb => hkeep b (h4 b (getD_flat hb)).1)
      refine ⟨?_, ?_, ?_, c', cap', ?_, p4⟩
      · rw [List.getElem?_set_ne (by omega), List.getElem?_set_ne (by omega), List.getElem?_set_ne (by omega), List.getElem?_set_ne (by omega)]; exact p0
      · rw [List.getElem?_set_ne (by omega), List.getElem?_set_ne (by omega), List.getElem?_set_ne (by omega), List.getElem?_set_ne (by omega)]; exact p1
      · rw [List.getElem?_set_ne (by omega), List.getElem?_set_ne (by omega), List.getElem?_set_ne (by omega), List.getElem?_set_ne (by omega)]; exact p2
      · rw [List.getElem?_set_ne (by omega), List.getElem?_set_ne (by omega), List.getElem?_set_ne (by omega), List.getElem?_set_ne (by omega)]; exact p3
/-- A row whose parts are all there is the term's. -/
theorem DoneX.new {w : World} {g cap M : Nat} {e : Ex} (h : DoneX w g e.l e.l.length cap e.l.length M) : NewX w g e (some ⟨g, 0, none⟩) := by
  obtain ⟨cs, Fs, h1, h2, h3, h4, h5⟩ := h
  by_cases h0 : e.l.length = 0
  · obtain ⟨k, n, s, l⟩ := e
    obtain rfl : l = [] := List.length_eq_zero_iff.1 h0
    exact NewX.nil ..
  · obtain ⟨cur, hh, hz, hc⟩ := ownsRow_heap h1
    refine ⟨g :: Fs.flatten, (OwX_eq _ _ _ _).2 (.inr ⟨g, cur, 26, Fs, rfl, hh, hz, h2, rfl, fun i hi => ?_⟩), ?_, ?_⟩
    · obtain ⟨p0, p1, p2, c, cp, p3, p4⟩ := h5 i hi
      exact ⟨(hc _ (by omega)).trans p0, (hc _ (by omega)).trans p1, (hc _ (by omega)).trans p2, c, cp, (hc _ (by omega)).trans p3, p4⟩
    · exact List.nodup_cons.2 ⟨fun hb => by have := (h4 g hb).1; omega, h3⟩
    · intro b hb
      rcases List.mem_cons.1 hb with rfl | hb
      · exact Nat.le_refl _
      · exact Nat.le_of_lt (h4 b hb).1
def ToP (e : Ex) : Prop := ∀ (b : Option Addr) (cap : Nat) (w : World), RdX w 0 e b → e.sz ≤ 1048576 → Calls Tryd.prog 27 #[.agg (e.cs b cap)] w fun r w' => ∃ (c : Option Addr) (cap' : Nat), r = .returned (.agg (e.cs c cap')) ∧ NewX w' w.heap.size e c ∧ Below w.heap.size w w'
end Go.Proofs.YtkolflcjkofleaaDoor

namespace Go.Proofs.YtkolflcjkofleaaDoor
open Go.ChangeShapes Go.WideShapes Go.ChangeAt Go.RowKit
set_option linter.unusedVariables false
set_option maxRecDepth 8000

theorem box4 (w : World) (e : Ex) (b : Option Addr) (cap : Nat) (ty : TypeId) : (w.alloc (.cells (e.cs b cap) ty)).cell? ⟨w.heap.size, 0, none⟩ = some (.int .i64 e.k) ∧ (w.alloc (.cells (e.cs b cap) ty)).cell? ⟨w.heap.size, 1, none⟩ = some (.int .i64 e.n) ∧ (w.alloc (.cells (e.cs b cap) ty)).cell? ⟨w.heap.size, 2, none⟩ = some (.string e.s) ∧ (w.alloc (.cells (e.cs b cap) ty)).cell? ⟨w.heap.size, 3, none⟩ = some (.slice b e.l.length cap) := by
  have h : (w.alloc (.cells (e.cs b cap) ty)).heap[w.heap.size]? = some (.cells (e.cs b cap) ty (0, 0)) := Array.getElem?_push_size
  exact ⟨Lib.cell_of_heap h 0, Lib.cell_of_heap h 1, Lib.cell_of_heap h 2, Lib.cell_of_heap h 3⟩
theorem all_take (l : List Ex) (f : Ex → Bool) (k : Nat) (h : k < l.length) : (l.take (k + 1)).all f = ((l.take k).all f && f (xAt l k)) := by
  rw [List.take_succ_eq_append_getElem h, List.all_append, xAt_get h]
  simp
theorem all_part {l : List Ex} {f : Ex → Bool} {k : Nat} (h : k < l.length) (hf : f (xAt l k) = false) : l.all f = false := by
  rw [List.all_eq_false]
  exact ⟨_, xAt_mem h, by rw [hf]; decide⟩
theorem okF_s (d : Nat) (p : Bool) (e : Ex) : okF (d + 1) p e = (e.here && (!(p && (e.k == 11 || e.k == 12)) && e.l.all (okF d p))) := rfl
set_option maxHeartbeats 2000000 in
theorem okS_all : ∀ d : Nat, d ≤ 6 → ∀ (e : Ex) (b : Option Addr) (cap : Nat) (p : Bool) (w : World), RdX w 0 e b → e.sz ≤ 1048576 → Calls Tryd.prog 77 #[.agg (e.cs b cap), .int .i64 (7 - (d : Int)), .bool p] w fun r w' => r = .returned (.bool (okF d p e)) ∧ Below w.heap.size w w' := by
  intro d
  induction d with
  | zero =>
    intro _ e b cap p w hr hz
    have B0 := hide (below_new w (.cells (e.cs b cap) 26))
    rw [show okF 0 p e = false from rfl]
    unfold Ex.cs at B0 ⊢
    go_enter Tryd.func77, Tryd.ntmps77
    go_wp2
    go_ret
    exact ⟨rfl, unhide B0⟩
  | succ d ih =>
    intro hd e b cap p w hr hz
    have hsz := sz_is e
    rw [okF_s]
    have hbW := below_new w (.cells (e.cs b cap) 26)
    have B0 := hide hbW
    have HH := hereS_any e b cap (w.alloc (.cells (e.cs b cap) 26)) (by omega) (by omega)
    obtain ⟨x0, x1, x2, x3⟩ := box4 w e b cap 26
    have xl : w.heap.size < (w.alloc (.cells (e.cs b cap) 26)).heap.size := by simp
    have hrW := hr.later hbW
    rw [RdX_eq] at hrW
    have hp : ∀ i, i < e.l.length → (xAt e.l i).sz ≤ 1048576 := fun i hi => by have := sz_part hi; omega
    have hm : e.l.length ≤ 1048576 := by omega
    have ihd := ih (by omega)
    have hD : (7 : Int) - ((d + 1 : Nat) : Int) + 1 = 7 - (d : Int) := by omega
    have hD6 : ¬ (6 < (7 : Int) - ((d + 1 : Nat) : Int)) := by omega
    have hDb : -100 ≤ (7 : Int) - ((d + 1 : Nat) : Int) ∧ (7 : Int) - ((d + 1 : Nat) : Int) ≤ 100 := by omega
    generalize hDD : (7 : Int) - ((d + 1 : Nat) : Int) = DD at *
    clear hr hsz hz hbW ih hDD
    generalize e.here = hq at *
    unfold Ex.cs at B0 HH x0 x1 x2 x3 xl hrW ⊢
    generalize e.l = l at *
    generalize e.k = k at *
    generalize e.n = n at *
    generalize e.s = s at *
    obtain ⟨len, hl⟩ : ∃ len, l.length = len := ⟨_, rfl⟩
    rw [hl] at hm hp HH x0 x1 x2 x3 B0 xl hrW ⊢
    obtain ⟨W, hW⟩ : ∃ W, w.alloc (.cells #[.int .i64 k, .int .i64 n, .string s, .slice b len cap] 26) = W := ⟨_, rfl⟩
    rw [hW] at HH x0 x1 x2 x3 B0 xl hrW
    have HC := hide HH
    have E0 : ∀ y : Sub W.heap.size W, y.w.cell? ⟨w.heap.size, 0, none⟩ = _ := fun y => (y.h.cell (p := ⟨w.heap.size, _, none⟩) xl).trans x0
    have E3 : ∀ y : Sub W.heap.size W, y.w.cell? ⟨w.heap.size, 3, none⟩ = _ := fun y => (y.h.cell (p := ⟨w.heap.size, _, none⟩) xl).trans x3
    have ne := Sub.ne W.heap.size W
    have HZ := hide (Nat.le_refl W.heap.size)
    have HB := hide (fun y : Sub W.heap.size W => (unhide B0).trans (y.h.mono (unhide B0).size))
    clear HH xl
    obtain ⟨T, hT⟩ : ∃ T, (hq && (!(p && (k == 11 || k == 12)) && l.all (okF d p))) = T := ⟨_, rfl⟩
    have HT := hide hT
    rw [hT]
    clear hT
    go_enter Tryd.func77, Tryd.ntmps77
    go_wp2_with fail
    refine (Sub.call (x := ⟨W, Below.refl _ _⟩) (unhide HZ) (unhide HC)).mono ?_
    rintro r _ ⟨rfl, y, rfl⟩
    clear HC x0 x1 x2 x3
    cases hq with
    | false =>
      have EF := hide ((unhide HT).symm.trans (Bool.false_and _))
      go_wp2
      go_ret
      exact ⟨by rw [unhide EF]; rfl, unhide HB _⟩
    | true =>
      by_cases hx : (p && (k == 11 || k == 12)) = true
      · have EF := hide (show T = false by rw [← unhide HT, hx]; rfl)
        have hpp : p = true := by cases p with | true => rfl | false => simp at hx
        subst hpp
        by_cases h11 : k = 11
        · subst h11
          go_wp2
          go_ret
          exact ⟨by rw [unhide EF]; rfl, unhide HB _⟩
        · have h12 : k = 12 := by simpa [h11] using hx
          subst h12
          go_wp2
          go_ret
          exact ⟨by rw [unhide EF]; rfl, unhide HB _⟩
      · have hxf : (p && (k == 11 || k == 12)) = false := by simpa using hx
        rw [hxf] at HT
        have HT := hide (show l.all (okF d p) = T by rw [← unhide HT]; simp)
        clear hxf
        cases p with
        | false =>
          clear hx
          go_wp2
          go_loopw [7] (fun i wr => ∃ (j : Nat) (z : Sub W.heap.size W), j ≤ len ∧ i = .int .i64 j ∧ (l.take j).all (okF d false) = true ∧ wr = z.w) (fun i _ => len - (intOf i).toNat)
          case atStart => exact ⟨0, y, Nat.zero_le _, rfl, rfl, rfl⟩
          case round =>
            obtain ⟨j, z, hj, rfl, hdone, rfl⟩ := hrel
            have HD := hide hdone
            clear hdone
            by_cases hlt : j < len
            · rcases hrW with h0 | ⟨p1, po, hb1, _, hp1, hpc⟩
              · rw [h0] at hl; simp at hl; omega
              subst hb1
              obtain ⟨e0, e1, e2, pc, pp, e3, e4⟩ := hpc j (by omega)
              have d0 : ∀ y : Sub W.heap.size W, y.w.cell? ⟨p1, po + j * 4, none⟩ = _ := fun y => (y.h.cell (p := ⟨p1, _, none⟩) hp1).trans e0
              have d1 : ∀ y : Sub W.heap.size W, y.w.cell? ⟨p1, po + j * 4 + 1, none⟩ = _ := fun y => (y.h.cell (p := ⟨p1, _, none⟩) hp1).trans e1
              have d2 : ∀ y : Sub W.heap.size W, y.w.cell? ⟨p1, po + j * 4 + 2, none⟩ = _ := fun y => (y.h.cell (p := ⟨p1, _, none⟩) hp1).trans e2
              have d3 : ∀ y : Sub W.heap.size W, y.w.cell? ⟨p1, po + j * 4 + 3, none⟩ = _ := fun y => (y.h.cell (p := ⟨p1, _, none⟩) hp1).trans e3
              have HE := hide (fun y : Sub W.heap.size W => ihd (xAt l j) pc pp false y.w (e4.later y.h) (hp j hlt))
              have AT := hide (all_take l (okF d false) j (by omega))
              have AP := hide (fun h => all_part (f := okF d false) (show j < l.length by omega) h)
              clear e0 e1 e2 e3 e4 hpc ihd hp
              unfold Ex.cs at HE
              generalize okF d false (xAt l j) = q at *
              generalize (xAt l j).s = ss at *
              generalize (xAt l j).k = kk at *
              generalize (xAt l j).n = nn at *
              generalize (xAt l j).l.length = ll at *
              cases q with
              | false =>
                have EF := hide ((unhide HT).symm.trans (unhide AP rfl))
                go_wp2_with (go_at_call 77; refine (Sub.call (unhide HZ) (unhide HE _)).mono ?_; rintro r _ ⟨rfl, z2, rfl⟩)
                go_ret
                exact ⟨by rw [unhide EF]; rfl, unhide HB _⟩
              | true =>
                go_wp2_with (go_at_call 77; refine (Sub.call (unhide HZ) (unhide HE _)).mono ?_; rintro r _ ⟨rfl, z2, rfl⟩)
                go_roundw
                case rel => exact ⟨j + 1, z2, by omega, by go_num, by rw [unhide AT, unhide HD]; rfl, rfl⟩
                case measure => simp [intOf]; omega
            · obtain rfl : j = len := by omega
              have EF := hide ((unhide HT).symm.trans ((show l.all (okF d false) = (l.take j).all (okF d false) by rw [← hl, List.take_length]).trans (unhide HD)))
              go_wp2
              go_ret
              exact ⟨by rw [unhide EF]; rfl, unhide HB _⟩
        | true =>
          have h11 : (k == 11) = false := by simp at hx; simp [hx.1]
          have h12 : (k == 12) = false := by simp at hx; simp [hx.2]
          clear hx
          go_wp2
          go_loopw [7] (fun i wr => ∃ (j : Nat) (z : Sub W.heap.size W), j ≤ len ∧ i = .int .i64 j ∧ (l.take j).all (okF d true) = true ∧ wr = z.w) (fun i _ => len - (intOf i).toNat)
          case atStart => exact ⟨0, y, Nat.zero_le _, rfl, rfl, rfl⟩
          case round =>
            obtain ⟨j, z, hj, rfl, hdone, rfl⟩ := hrel
            have HD := hide hdone
            clear hdone
            by_cases hlt : j < len
            · rcases hrW with h0 | ⟨p1, po, hb1, _, hp1, hpc⟩
              · rw [h0] at hl; simp at hl; omega
              subst hb1
              obtain ⟨e0, e1, e2, pc, pp, e3, e4⟩ := hpc j (by omega)
              have d0 : ∀ y : Sub W.heap.size W, y.w.cell? ⟨p1, po + j * 4, none⟩ = _ := fun y => (y.h.cell (p := ⟨p1, _, none⟩) hp1).trans e0
              have d1 : ∀ y : Sub W.heap.size W, y.w.cell? ⟨p1, po + j * 4 + 1, none⟩ = _ := fun y => (y.h.cell (p := ⟨p1, _, none⟩) hp1).trans e1
              have d2 : ∀ y : Sub W.heap.size W, y.w.cell? ⟨p1, po + j * 4 + 2, none⟩ = _ := fun y => (y.h.cell (p := ⟨p1, _, none⟩) hp1).trans e2
              have d3 : ∀ y : Sub W.heap.size W, y.w.cell? ⟨p1, po + j * 4 + 3, none⟩ = _ := fun y => (y.h.cell (p := ⟨p1, _, none⟩) hp1).trans e3
              have HE := hide (fun y : Sub W.heap.size W => ihd (xAt l j) pc pp true y.w (e4.later y.h) (hp j hlt))
              have AT := hide (all_take l (okF d true) j (by omega))
              have AP := hide (fun h => all_part (f := okF d true) (show j < l.length by omega) h)
              clear e0 e1 e2 e3 e4 hpc ihd hp
              unfold Ex.cs at HE
              generalize okF d true (xAt l j) = q at *
              generalize (xAt l j).s = ss at *
              generalize (xAt l j).k = kk at *
              generalize (xAt l j).n = nn at *
              generalize (xAt l j).l.length = ll at *
              cases q with
              | false =>
                have EF := hide ((unhide HT).symm.trans (unhide AP rfl))
                go_wp2_with (go_at_call 77; refine (Sub.call (unhide HZ) (unhide HE _)).mono ?_; rintro r _ ⟨rfl, z2, rfl⟩)
                go_ret
                exact ⟨by rw [unhide EF]; rfl, unhide HB _⟩
              | true =>
                go_wp2_with (go_at_call 77; refine (Sub.call (unhide HZ) (unhide HE _)).mono ?_; rintro r _ ⟨rfl, z2, rfl⟩)
                go_roundw
                case rel => exact ⟨j + 1, z2, by omega, by go_num, by rw [unhide AT, unhide HD]; rfl, rfl⟩
                case measure => simp [intOf]; omega
            · obtain rfl : j = len := by omega
              have EF := hide ((unhide HT).symm.trans ((show l.all (okF d true) = (l.take j).all (okF d true) by rw [← hl, List.take_length]).trans (unhide HD)))
              go_wp2
              go_ret
              exact ⟨by rw [unhide EF]; rfl, unhide HB _⟩
set_option maxHeartbeats 1000000 in
theorem okS_any (e : Ex) (b : Option Addr) (cap : Nat) (w : World) (hr : RdX w 0 e b) (hz : e.sz ≤ 1048576) : Calls Tryd.prog 51 #[.agg (e.cs b cap)] w fun r w' => r = .returned (.bool (okF 6 false e)) ∧ Below w.heap.size w w' := by
  have B0 := below_new w (.cells (e.cs b cap) 26)
  have H := (okS_all 6 (by omega) e b cap false _ (hr.later B0) hz).mono (R' := fun r w' => r = .returned (.bool (okF 6 false e)) ∧ Below w.heap.size w w') (fun r w' h => ⟨h.1, B0.trans (h.2.mono B0.size)⟩)
  rw [show (7 : Int) - ((6 : Nat) : Int) = 1 by omega] at H
  have HH := hide H
  clear H hr B0
  unfold Ex.cs at HH ⊢
  generalize okF 6 false e = q at *
  generalize e.l.length = ll at *
  go_enter Tryd.func51, Tryd.ntmps51
  go_wp2_with (go_at_call 77; refine (unhide HH).mono ?_; rintro r w1 ⟨rfl, hb1⟩)
  go_ret
  exact ⟨rfl, hb1⟩
end Go.Proofs.YtkolflcjkofleaaDoor

namespace Go.Proofs.YtkolflcjkofleaaDoor
open Go.ChangeShapes Go.WideShapes Go.ChangeAt Go.RowKit
set_option linter.unusedVariables false
set_option maxRecDepth 8000
set_option linter.unusedSimpArgs false

set_option maxHeartbeats 2000000 in
theorem pair_any (k : Int) (u v : Value) (w : World) : Calls Tryd.prog 68 #[.int .i64 k, .agg #[u, v]] w fun r w' => ∃ x, r = .returned (.tuple #[x, .bool (inB k 5 10)]) ∧ (inB k 5 10 = true → x = .iface (pairT k) (.agg #[u, v])) ∧ Below w.heap.size w w' := by
  have B0 := hide (below_new w (.cells #[u, v] 107))
  by_cases h5 : k = 5
  · subst h5
    rw [show inB 5 5 10 = true by decide]
    go_enter Tryd.func68, Tryd.ntmps68
    go_wp2
    go_ret2
    exact ⟨_, rfl, fun _ => rfl, unhide B0⟩
  by_cases h6 : k = 6
  · subst h6
    rw [show inB 6 5 10 = true by decide]
    go_enter Tryd.func68, Tryd.ntmps68
    go_wp2
    go_ret2
    exact ⟨_, rfl, fun _ => rfl, unhide B0⟩
  by_cases h7 : k = 7
  · subst h7
    rw [show inB 7 5 10 = true by decide]
    go_enter Tryd.func68, Tryd.ntmps68
    go_wp2
    go_ret2
    exact ⟨_, rfl, fun _ => rfl, unhide B0⟩
  by_cases h8 : k = 8
  · subst h8
    rw [show inB 8 5 10 = true by decide]
    go_enter Tryd.func68, Tryd.ntmps68
    go_wp2
    go_ret2
    exact ⟨_, rfl, fun _ => rfl, unhide B0⟩
  by_cases h9 : k = 9
  · subst h9
    rw [show inB 9 5 10 = true by decide]
    go_enter Tryd.func68, Tryd.ntmps68
    go_wp2
    go_ret2
    exact ⟨_, rfl, fun _ => rfl, unhide B0⟩
  by_cases h10 : k = 10
  · subst h10
    rw [show inB 10 5 10 = true by decide]
    go_enter Tryd.func68, Tryd.ntmps68
    go_wp2
    go_ret2
    exact ⟨_, rfl, fun _ => rfl, unhide B0⟩
  have g5 : (k == 5) = false := beq_eq_false_iff_ne.2 h5
  have g6 : (k == 6) = false := beq_eq_false_iff_ne.2 h6
  have g7 : (k == 7) = false := beq_eq_false_iff_ne.2 h7
  have g8 : (k == 8) = false := beq_eq_false_iff_ne.2 h8
  have g9 : (k == 9) = false := beq_eq_false_iff_ne.2 h9
  have g10 : (k == 10) = false := beq_eq_false_iff_ne.2 h10
  rw [show inB k 5 10 = false by unfold inB; simp; omega]
  go_enter Tryd.func68, Tryd.ntmps68
  go_wp2
  go_ret2
  exact ⟨_, rfl, (fun h => by cases h), unhide B0⟩
theorem here_one (k : Int) : hereV k 0 ⟨#[]⟩ 1 = (k == 4) := by
  unfold hereV Ex.here
  simp only [List.length_replicate, eqE1]
  by_cases h1 : k = 1
  · subst h1; rfl
  by_cases h2 : k = 2
  · subst h2; simp
  by_cases h12 : k = 12
  · subst h12; simp
  by_cases h11 : k = 11
  · subst h11; simp
  by_cases h3 : k = 3
  · subst h3; rfl
  by_cases h4 : k = 4
  · subst h4; rfl
  rw [if_neg (by simp), if_neg h1, if_neg (by omega), if_neg h3, if_neg h4, show (k == 4) = false from beq_eq_false_iff_ne.2 h4]
  split
  · rfl
  · rfl
theorem here_two (k : Int) : hereV k 0 ⟨#[]⟩ 2 = inB k 5 10 := by
  unfold hereV Ex.here
  simp only [List.length_replicate, eqE1]
  by_cases h1 : k = 1
  · subst h1; rfl
  by_cases h2 : k = 2
  · subst h2; simp [inB]
  by_cases h12 : k = 12
  · subst h12; simp [inB]
  by_cases h11 : k = 11
  · subst h11; simp [inB]
  by_cases h3 : k = 3
  · subst h3; rfl
  by_cases h4 : k = 4
  · subst h4; rfl
  rw [if_neg (by simp), if_neg h1, if_neg (by omega), if_neg h3, if_neg h4]
  split
  · rename_i h; rw [inB_t _ _ _ h.1 h.2]; rfl
  · rename_i h; rw [inB_f _ _ _ h]
theorem here_more (k n : Int) (s : ByteArray) (ll : Nat) (h : 3 ≤ ll) : hereV k n s ll = false := by
  have e0 : (ll == 0) = false := beq_eq_false_iff_ne.2 (by omega)
  have e1 : (ll == 1) = false := beq_eq_false_iff_ne.2 (by omega)
  have e2 : (ll == 2) = false := beq_eq_false_iff_ne.2 (by omega)
  unfold hereV Ex.here
  simp only [List.length_replicate, e0, e1, e2, Bool.and_false]
  repeat' split
  all_goals rfl
theorem hereV_n (k n : Int) (s : ByteArray) (ll : Nat) (h : 1 ≤ ll) (hn : n ≠ 0) : hereV k n s ll = false := by
  have e0 : (ll == 0) = false := beq_eq_false_iff_ne.2 (by omega)
  have en : (n != 0) = true := by simp [hn]
  unfold hereV Ex.here
  simp only [List.length_replicate, e0, Bool.and_false, en, Bool.and_true]
  by_cases h1 : k = 1
  · subst h1; repeat' split
    all_goals first | rfl | omega
  by_cases h11 : k = 11
  · subst h11; repeat' split
    all_goals first | rfl | omega
  rw [if_pos (by simp [h1, h11])]
theorem hereV_s (k n : Int) (s : ByteArray) (ll : Nat) (h : 1 ≤ ll) (hs : s ≠ E0) : hereV k n s ll = false := by
  have e0 : (ll == 0) = false := beq_eq_false_iff_ne.2 (by omega)
  have es := (emp_E s hs).2
  unfold hereV Ex.here
  simp only [List.length_replicate, e0, Bool.and_false, es, Bool.not_false, Bool.and_true]
  by_cases h1 : k = 2
  · subst h1; repeat' split
    all_goals first | rfl | omega
  by_cases h11 : k = 12
  · subst h11; repeat' split
    all_goals first | rfl | omega
  rw [if_pos (by simp [h1, h11])]
theorem okf_v (d : Nat) (k n : Int) (s : ByteArray) (l : List Ex) : okF (d + 1) false ⟨k, n, s, l⟩ = (hereV k n s l.length && l.all (okF d false)) := by
  rw [okF_s, here_is]
  rfl
theorem tv_if (e : Ex) : ∃ t x, tv e = .iface t x := by
  obtain ⟨k, n, s, l⟩ := e
  rw [tv]
  unfold tvC
  repeat' split
  all_goals exact ⟨_, _, rfl⟩
def TermR (d : Nat) (e : Ex) (w : World) (r : Ending) (w' : World) : Prop := ∃ v, r = .returned (.tuple #[v, .bool (okF d false e)]) ∧ (okF d false e = true → v = tv e) ∧ Below w.heap.size w w'
theorem termR_of {d : Nat} {e : Ex} {w : World} {r : Ending} {w' : World} {v : Value} {q : Bool} (h : okF d false e = q) (hr : r = .returned (.tuple #[v, .bool q])) (hv : q = true → v = tv e) (hb : Below w.heap.size w w') : TermR d e w r w' := ⟨v, by rw [h]; exact hr, fun x => hv (h.symm.trans x), hb⟩
def TermP (d : Nat) : Prop := ∀ (e : Ex) (b : Option Addr) (cap : Nat) (w : World), RdX w 0 e b → e.sz ≤ 1048576 → TabK w → Calls Tryd.prog 45 #[.agg (e.cs b cap), .int .i64 d] w (TermR d e w)
theorem rd_at {w : World} {e : Ex} {b : Option Addr} (h : RdX w 0 e b) {i : Nat} (hi : i < e.l.length) : ∃ p po, b = some ⟨p, po, none⟩ ∧ p < w.heap.size ∧ OneX w 0 p (po + i * 4) (xAt e.l i) := by
  rw [RdX_eq] at h
  rcases h with h | ⟨p, po, rfl, _, hp, hc⟩
  · rw [h] at hi; simp at hi
  · exact ⟨p, po, rfl, hp, hc i hi⟩
set_option maxHeartbeats 2000000 in
theorem term_zero : TermP 0 := by
  intro e b cap w hr hz ht
  have B0 := hide (below_new w (.cells (e.cs b cap) 26))
  have FN := hide (fun r w' v => termR_of (d := 0) (e := e) (w := w) (r := r) (w' := w') (v := v) rfl)
  generalize TermR 0 e w = R at *
  unfold Ex.cs at B0 ⊢
  go_enter Tryd.func45, Tryd.ntmps45
  go_wp2
  (try go_ret2)
  exact unhide FN _ _ _ rfl (fun h => by cases h) (unhide B0)
set_option maxHeartbeats 2000000 in
theorem term_nil (d : Nat) (h6 : d ≤ 6) (k n : Int) (s : ByteArray) (b : Option Addr) (cap : Nat) (w : World) (hs : s.size ≤ 1048576) (ht : TabK w) : Calls Tryd.prog 45 #[.agg #[.int .i64 k, .int .i64 n, .string s, .slice b 0 cap], .int .i64 ((d + 1 : Nat) : Int)] w (TermR (d + 1) ⟨k, n, s, []⟩ w) := by
  obtain ⟨W, hW⟩ : ∃ W, w.alloc (.cells #[.int .i64 k, .int .i64 n, .string s, .slice b 0 cap] 26) = W := ⟨_, rfl⟩
  have B0 := hide (below_new w (.cells #[.int .i64 k, .int .i64 n, .string s, .slice b 0 cap] 26))
  have hg : W.heap[w.heap.size]? = some (.cells #[.int .i64 k, .int .i64 n, .string s, .slice b 0 cap] 26 (0, 0)) := by rw [← hW]; exact Array.getElem?_push_size
  rw [hW] at B0
  have x0 := Lib.cell_of_heap hg 0
  have x1 := Lib.cell_of_heap hg 1
  have x2 := Lib.cell_of_heap hg 2
  have x3 := Lib.cell_of_heap hg 3
  have xl : w.heap.size < W.heap.size := (Array.getElem?_eq_some_iff.1 hg).1
  have hd0 : (((d + 1 : Nat) : Int) == 0) = false := beq_eq_false_iff_ne.2 (by omega)
  have hd1 : ((d + 1 : Nat) : Int) - 1 = (d : Int) := by omega
  have hdb : 0 ≤ ((d + 1 : Nat) : Int) ∧ ((d + 1 : Nat) : Int) ≤ 100 := by omega
  have LF := hide (leaf_any k n s b 0 cap W (by omega) (ht.next (unhide B0)))
  have FN := hide (fun r w' v q (h : hereV k n s 0 = q) => termR_of (d := d + 1) (e := ⟨k, n, s, []⟩) (w := w) (r := r) (w' := w') (v := v) ((okf_v d k n s []).trans ((Bool.and_true _).trans h)))
  have TV := hide (show tv ⟨k, n, s, []⟩ = tvC k n s [] by rw [tv]; rfl)
  rw [unhide TV] at FN
  generalize TermR (d + 1) ⟨k, n, s, []⟩ w = R at *
  clear hg xl ht TV
  generalize hDD : ((d + 1 : Nat) : Int) = DD at *
  go_enter Tryd.func45, Tryd.ntmps45
  go_wp2_with fail
  refine (unhide LF).mono ?_
  rintro r w1 ⟨v, rfl, hv, hb1⟩
  have F2 := hide (unhide FN (.returned (.tuple #[v, .bool (hereV k n s 0)])) w1 v _ rfl rfl hv ((unhide B0).trans (hb1.mono (unhide B0).size)))
  generalize hereV k n s 0 = q at *
  clear FN hv hb1
  go_wp2
  (try go_ret2)
  exact unhide F2
set_option maxHeartbeats 2000000 in
theorem term_bad (d : Nat) (h6 : d ≤ 6) (k n : Int) (s : ByteArray) (l : List Ex) (b : Option Addr) (cap : Nat) (w : World) (hz : l.length ≤ 1048576) (h1 : 1 ≤ l.length) (h : 3 ≤ l.length ∨ n ≠ 0 ∨ s ≠ E0) : Calls Tryd.prog 45 #[.agg #[.int .i64 k, .int .i64 n, .string s, .slice b l.length cap], .int .i64 ((d + 1 : Nat) : Int)] w (TermR (d + 1) ⟨k, n, s, l⟩ w) := by
  have V : hereV k n s l.length = false := by
    rcases h with h | h | h
    · exact here_more k n s _ h
    · exact hereV_n k n s _ h1 h
    · exact hereV_s k n s _ h1 h
  have FN := hide (fun r w' v => termR_of (d := d + 1) (e := ⟨k, n, s, l⟩) (w := w) (r := r) (w' := w') (v := v) (q := false) (by rw [okf_v, V]; rfl))
  generalize TermR (d + 1) ⟨k, n, s, l⟩ w = R at *
  clear V
  generalize l.length = ll at *
  obtain ⟨W, hW⟩ : ∃ W, w.alloc (.cells #[.int .i64 k, .int .i64 n, .string s, .slice b ll cap] 26) = W := ⟨_, rfl⟩
  have B0 := hide (below_new w (.cells #[.int .i64 k, .int .i64 n, .string s, .slice b ll cap] 26))
  have hg : W.heap[w.heap.size]? = some (.cells #[.int .i64 k, .int .i64 n, .string s, .slice b ll cap] 26 (0, 0)) := by rw [← hW]; exact Array.getElem?_push_size
  rw [hW] at B0
  have x0 := Lib.cell_of_heap hg 0
  have x1 := Lib.cell_of_heap hg 1
  have x2 := Lib.cell_of_heap hg 2
  have x3 := Lib.cell_of_heap hg 3
  have xl : w.heap.size < W.heap.size := (Array.getElem?_eq_some_iff.1 hg).1
  have hd0 : (((d + 1 : Nat) : Int) == 0) = false := beq_eq_false_iff_ne.2 (by omega)
  have hd1 : ((d + 1 : Nat) : Int) - 1 = (d : Int) := by omega
  have hdb : 0 ≤ ((d + 1 : Nat) : Int) ∧ ((d + 1 : Nat) : Int) ≤ 100 := by omega
  clear hg xl
  have h0 : ((ll : Int) == 0) = false := beq_eq_false_iff_ne.2 (by omega)
  generalize hDD : ((d + 1 : Nat) : Int) = DD at *
  by_cases h3 : 3 ≤ ll
  · have g3 : (2 : Int) < (ll : Int) := by omega
    clear h
    go_enter Tryd.func45, Tryd.ntmps45
    go_wp2
    (try go_ret2)
    exact unhide FN _ _ _ rfl (fun h => by cases h) (unhide B0)
  · have g3 : decide ((2 : Int) < (ll : Int)) = false := decide_eq_false (by omega)
    have g4 : decide (2 < ll) = false := decide_eq_false (by omega)
    by_cases hn : n = 0
    · subst hn
      have hs : s ≠ E0 := by rcases h with h | h | h; omega; exact absurd rfl h; exact h
      obtain ⟨e1, e2⟩ := emp_E s hs
      clear h
      go_enter Tryd.func45, Tryd.ntmps45
      go_wp2
      (try go_ret2)
      exact unhide FN _ _ _ rfl (fun h => by cases h) (unhide B0)
    · have en : (n == 0) = false := beq_eq_false_iff_ne.2 hn
      clear h
      go_enter Tryd.func45, Tryd.ntmps45
      go_wp2
      (try go_ret2)
      exact unhide FN _ _ _ rfl (fun h => by cases h) (unhide B0)
set_option maxHeartbeats 4000000 in
theorem term_one (d : Nat) (h6 : d ≤ 6) (ih : TermP d) (k : Int) (a : Ex) (b : Option Addr) (cap : Nat) (w : World) (hr : RdX w 0 ⟨k, 0, ⟨#[]⟩, [a]⟩ b) (hz : a.sz ≤ 1048576) (ht : TabK w) : Calls Tryd.prog 45 #[.agg #[.int .i64 k, .int .i64 0, .string ⟨#[]⟩, .slice b 1 cap], .int .i64 ((d + 1 : Nat) : Int)] w (TermR (d + 1) ⟨k, 0, ⟨#[]⟩, [a]⟩ w) := by
  obtain ⟨W, hW⟩ : ∃ W, w.alloc (.cells #[.int .i64 k, .int .i64 0, .string ⟨#[]⟩, .slice b 1 cap] 26) = W := ⟨_, rfl⟩
  have B0 := hide (below_new w (.cells #[.int .i64 k, .int .i64 0, .string ⟨#[]⟩, .slice b 1 cap] 26))
  have hg : W.heap[w.heap.size]? = some (.cells #[.int .i64 k, .int .i64 0, .string ⟨#[]⟩, .slice b 1 cap] 26 (0, 0)) := by rw [← hW]; exact Array.getElem?_push_size
  rw [hW] at B0
  have x0 := Lib.cell_of_heap hg 0
  have x1 := Lib.cell_of_heap hg 1
  have x2 := Lib.cell_of_heap hg 2
  have x3 := Lib.cell_of_heap hg 3
  have xl : w.heap.size < W.heap.size := (Array.getElem?_eq_some_iff.1 hg).1
  have hd0 : (((d + 1 : Nat) : Int) == 0) = false := beq_eq_false_iff_ne.2 (by omega)
  have hd1 : ((d + 1 : Nat) : Int) - 1 = (d : Int) := by omega
  have hdb : 0 ≤ ((d + 1 : Nat) : Int) ∧ ((d + 1 : Nat) : Int) ≤ 100 := by omega
  obtain ⟨p, po, rfl, hp, o0⟩ := rd_at (hr.later (unhide B0)) (i := 0) (show 0 < [a].length by simp)
  obtain ⟨e00, e01, e02, c0, cp0, e03, e04⟩ := o0
  simp only [show xAt [a] 0 = a from rfl] at e00 e01 e02 e03 e04
  rw [Nat.zero_mul, Nat.add_zero] at e00 e01 e02 e03
  have IH := hide (ih a c0 cp0 W e04 hz (ht.next (unhide B0)))
  have FN := hide (fun r w' v q (h : (k == 4 && okF d false a) = q) => termR_of (d := d + 1) (e := ⟨k, 0, ⟨#[]⟩, [a]⟩) (w := w) (r := r) (w' := w') (v := v) (q := q) (by rw [okf_v, ← h, show [a].length = 1 from rfl, here_one]; simp))
  have TV := hide (show k = 4 → tv ⟨k, 0, ⟨#[]⟩, [a]⟩ = .iface 104 (.agg #[tv a]) by rintro rfl; exact tv_neg _ _ _)
  generalize tv ⟨k, 0, ⟨#[]⟩, [a]⟩ = tve at *
  generalize TermR (d + 1) ⟨k, 0, ⟨#[]⟩, [a]⟩ w = R at *
  unfold Ex.cs at IH
  generalize a.k = ak at *
  generalize a.n = an at *
  generalize a.s = asv at *
  generalize a.l.length = al at *
  have y0 : ∀ w1, Below W.heap.size W w1 → w1.cell? ⟨w.heap.size, 0, none⟩ = some (.int .i64 k) := fun w1 hb => (hb.cell (p := ⟨w.heap.size, _, none⟩) xl).trans x0
  have y3 : ∀ w1, Below W.heap.size W w1 → w1.cell? ⟨w.heap.size, 3, none⟩ = some (.slice (some ⟨p, po, none⟩) 1 cap) := fun w1 hb => (hb.cell (p := ⟨w.heap.size, _, none⟩) xl).trans x3
  have Y0 := hide y0
  have Y3 := hide y3
  have KQ : k = 4 ∨ k ≠ 4 := by omega
  clear hg xl ht hr hz ih e04 y0 y3 hp
  generalize hDD : ((d + 1 : Nat) : Int) = DD at *
  go_enter Tryd.func45, Tryd.ntmps45
  go_wp2_with fail
  refine (unhide IH).mono ?_
  rintro r w1 ⟨v, rfl, hv, hb1⟩
  have BB := hide ((unhide B0).trans (hb1.mono (unhide B0).size))
  have z0 := unhide Y0 w1 hb1
  have z3 := unhide Y3 w1 hb1
  have HV := hide hv
  generalize okF d false a = q at *
  clear hv hb1 Y0 Y3 IH x0 x1 x2 x3 e00 e01 e02 e03
  cases q with
  | false =>
    have F2 := hide (fun r w' v => unhide FN r w' v false (Bool.and_false _))
    clear FN
    go_wp2
    (try go_ret2)
    exact unhide F2 _ _ _ rfl (fun h => by cases h) (unhide BB)
  | true =>
    obtain ⟨t1, x1, e1⟩ := tv_if a
    have hve := unhide HV rfl
    rw [e1] at hve TV
    subst hve
    clear HV e1
    have xl1 : w.heap.size < w1.heap.size := World.block_lt_of_cell? w1 _ z0
    have q0 : ∀ y : Sub w1.heap.size w1, y.w.cell? ⟨w.heap.size, 0, none⟩ = some (.int .i64 k) := fun y => (y.h.cell (p := ⟨w.heap.size, _, none⟩) xl1).trans z0
    have ne := Sub.ne w1.heap.size w1
    have BY := hide (fun y : Sub w1.heap.size w1 => (unhide BB).trans (y.h.mono (unhide BB).size))
    clear xl1
    rcases KQ with rfl | hk
    · have F2 := hide (fun r w' (hr : r = .returned (.tuple #[.iface 104 (.agg #[.iface t1 x1]), .bool true])) hb => unhide FN r w' _ true rfl hr (fun _ => (unhide TV rfl).symm) hb)
      clear FN TV
      go_wp2_with fail
      refine wp_region_sub (⟨w1, Below.refl _ _⟩ : Sub w1.heap.size w1) (by kernel_rfl) (by kernel_rfl) ?_
      repeat (go_big_quiet_step (first | fail))
      refine wpQuiet_nil ?_
      intro y
      go_wp2
      (try go_ret2)
      exact unhide F2 _ _ rfl (unhide BY _)
    · have hk4 : (k == 4) = false := beq_eq_false_iff_ne.2 hk
      have F2 := hide (fun r w' v => unhide FN r w' v false (by rw [hk4]; rfl))
      clear FN TV
      go_wp2_with fail
      refine wp_region_sub (⟨w1, Below.refl _ _⟩ : Sub w1.heap.size w1) (by kernel_rfl) (by kernel_rfl) ?_
      repeat (go_big_quiet_step (first | fail))
      refine wpQuiet_nil ?_
      intro y
      go_wp2
      (try go_ret2)
      exact unhide F2 _ _ _ rfl (fun h => by cases h) (unhide BY _)
set_option maxHeartbeats 4000000 in
theorem term_two (d : Nat) (h6 : d ≤ 6) (ih : TermP d) (k : Int) (a a2 : Ex) (b : Option Addr) (cap : Nat) (w : World) (hr : RdX w 0 ⟨k, 0, ⟨#[]⟩, [a, a2]⟩ b) (hz : a.sz ≤ 1048576) (hz2 : a2.sz ≤ 1048576) (ht : TabK w) : Calls Tryd.prog 45 #[.agg #[.int .i64 k, .int .i64 0, .string ⟨#[]⟩, .slice b 2 cap], .int .i64 ((d + 1 : Nat) : Int)] w (TermR (d + 1) ⟨k, 0, ⟨#[]⟩, [a, a2]⟩ w) := by
  obtain ⟨W, hW⟩ : ∃ W, w.alloc (.cells #[.int .i64 k, .int .i64 0, .string ⟨#[]⟩, .slice b 2 cap] 26) = W := ⟨_, rfl⟩
  have B0 := hide (below_new w (.cells #[.int .i64 k, .int .i64 0, .string ⟨#[]⟩, .slice b 2 cap] 26))
  have hg : W.heap[w.heap.size]? = some (.cells #[.int .i64 k, .int .i64 0, .string ⟨#[]⟩, .slice b 2 cap] 26 (0, 0)) := by rw [← hW]; exact Array.getElem?_push_size
  rw [hW] at B0
  have x0 := Lib.cell_of_heap hg 0
  have x1 := Lib.cell_of_heap hg 1
  have x2 := Lib.cell_of_heap hg 2
  have x3 := Lib.cell_of_heap hg 3
  have xl : w.heap.size < W.heap.size := (Array.getElem?_eq_some_iff.1 hg).1
  have hd0 : (((d + 1 : Nat) : Int) == 0) = false := beq_eq_false_iff_ne.2 (by omega)
  have hd1 : ((d + 1 : Nat) : Int) - 1 = (d : Int) := by omega
  have hdb : 0 ≤ ((d + 1 : Nat) : Int) ∧ ((d + 1 : Nat) : Int) ≤ 100 := by omega
  obtain ⟨p, po, rfl, hp, o0⟩ := rd_at (hr.later (unhide B0)) (i := 0) (show 0 < [a, a2].length by simp)
  obtain ⟨_, _, hpe, _, o1⟩ := rd_at (hr.later (unhide B0)) (i := 1) (show 1 < [a, a2].length by simp)
  cases hpe
  obtain ⟨e00, e01, e02, c0, cp0, e03, e04⟩ := o0
  simp only [show xAt [a, a2] 0 = a from rfl] at e00 e01 e02 e03 e04
  obtain ⟨e10, e11, e12, c1, cp1, e13, e14⟩ := o1
  simp only [show xAt [a, a2] 1 = a2 from rfl] at e10 e11 e12 e13 e14
  rw [Nat.zero_mul, Nat.add_zero] at e00 e01 e02 e03
  rw [Nat.one_mul] at e10 e11 e12 e13
  have IH := hide (ih a c0 cp0 W e04 hz (ht.next (unhide B0)))
  have IH2 := hide (fun w1 (hb : Below W.heap.size W w1) => ih a2 c1 cp1 w1 (e14.later hb) hz2 ((ht.next (unhide B0)).next hb))
  have FN := hide (fun r w' v q (h : (inB k 5 10 && (okF d false a && okF d false a2)) = q) => termR_of (d := d + 1) (e := ⟨k, 0, ⟨#[]⟩, [a, a2]⟩) (w := w) (r := r) (w' := w') (v := v) (q := q) (by rw [okf_v, ← h, show [a, a2].length = 2 from rfl, here_two]; simp))
  have TV := hide (show inB k 5 10 = true → tv ⟨k, 0, ⟨#[]⟩, [a, a2]⟩ = .iface (pairT k) (.agg #[tv a, tv a2]) by intro h; exact tv_two ((inB_iff _ _ _).1 h) _ _ _ _)
  generalize tv ⟨k, 0, ⟨#[]⟩, [a, a2]⟩ = tve at *
  generalize TermR (d + 1) ⟨k, 0, ⟨#[]⟩, [a, a2]⟩ w = R at *
  unfold Ex.cs at IH IH2
  generalize a.k = ak at *
  generalize a.n = an at *
  generalize a.s = asv at *
  generalize a.l.length = al at *
  generalize a2.k = bk at *
  generalize a2.n = bn at *
  generalize a2.s = bs at *
  generalize a2.l.length = bl at *
  have Y0 := hide (fun w1 (hb : Below W.heap.size W w1) => (hb.cell (p := ⟨w.heap.size, 0, none⟩) xl).trans x0)
  have Y3 := hide (fun w1 (hb : Below W.heap.size W w1) => (hb.cell (p := ⟨w.heap.size, 3, none⟩) xl).trans x3)
  have U0 := hide (fun w1 (hb : Below W.heap.size W w1) => (hb.cell (p := ⟨p, po + 4, none⟩) hp).trans e10)
  have U1 := hide (fun w1 (hb : Below W.heap.size W w1) => (hb.cell (p := ⟨p, po + 4 + 1, none⟩) hp).trans e11)
  have U2 := hide (fun w1 (hb : Below W.heap.size W w1) => (hb.cell (p := ⟨p, po + 4 + 2, none⟩) hp).trans e12)
  have U3 := hide (fun w1 (hb : Below W.heap.size W w1) => (hb.cell (p := ⟨p, po + 4 + 3, none⟩) hp).trans e13)
  clear hg xl ht hr hz hz2 ih e04 e14 e10 e11 e12 e13 hp
  generalize hDD : ((d + 1 : Nat) : Int) = DD at *
  go_enter Tryd.func45, Tryd.ntmps45
  go_wp2_with fail
  refine (unhide IH).mono ?_
  rintro r w1 ⟨v, rfl, hv, hb1⟩
  have HB1 := hide hb1
  have BB := hide ((unhide B0).trans (hb1.mono (unhide B0).size))
  have z0 := unhide Y0 w1 hb1
  have z3 := unhide Y3 w1 hb1
  have u0 := unhide U0 w1 hb1
  have u1 := unhide U1 w1 hb1
  have u2 := unhide U2 w1 hb1
  have u3 := unhide U3 w1 hb1
  have HV := hide hv
  have J2 := hide (unhide IH2 w1 hb1)
  generalize okF d false a = q at *
  clear hv hb1 U0 U1 U2 U3 IH IH2 x0 x1 x2 x3 e00 e01 e02 e03
  cases q with
  | false =>
    have F2 := hide (fun r w' v => unhide FN r w' v false (by rw [Bool.false_and, Bool.and_false]))
    clear FN
    go_wp2
    (try go_ret2)
    exact unhide F2 _ _ _ rfl (fun h => by cases h) (unhide BB)
  | true =>
    obtain ⟨t1, x1, e1⟩ := tv_if a
    have hve := unhide HV rfl
    rw [e1] at hve TV
    subst hve
    clear HV e1
    go_wp2_with fail
    refine (unhide J2).mono ?_
    rintro r w2 ⟨v2, rfl, hv2, hb2⟩
    have HB2 := hide ((unhide HB1).trans (hb2.mono (unhide HB1).size))
    have B2 := hide ((unhide BB).trans (hb2.mono (unhide BB).size))
    have t0 := unhide Y0 w2 (unhide HB2)
    have HV2 := hide hv2
    generalize okF d false a2 = q2 at *
    clear hv2 hb2 u0 u1 u2 u3 z0 z3 Y0 Y3 J2
    cases q2 with
    | false =>
      have F2 := hide (fun r w' v => unhide FN r w' v false (Bool.and_false _))
      clear FN
      go_wp2
      (try go_ret2)
      exact unhide F2 _ _ _ rfl (fun h => by cases h) (unhide B2)
    | true =>
      obtain ⟨t2, x2, e2⟩ := tv_if a2
      have hve := unhide HV2 rfl
      rw [e2] at hve TV
      subst hve
      clear HV2 e2
      have F2 := hide (fun r w' v q (h : inB k 5 10 = q) => unhide FN r w' v q ((Bool.and_true _).trans h))
      have P2 := hide (pair_any k (.iface t1 x1) (.iface t2 x2) w2)
      clear FN
      go_wp2_with fail
      refine (unhide P2).mono ?_
      rintro r w3 ⟨x, rfl, hx, hb3⟩
      have F3 := hide (unhide F2 (.returned (.tuple #[x, .bool (inB k 5 10)])) w3 x _ rfl rfl (fun h => by rw [hx h, unhide TV h]) ((unhide B2).trans (hb3.mono (unhide B2).size)))
      generalize inB k 5 10 = qq at *
      clear F2 hx hb3 P2
      go_wp2
      (try go_ret2)
      exact unhide F3
theorem term_all : ∀ d : Nat, d ≤ 6 → TermP d := by
  intro d
  induction d with
  | zero => intro _; exact term_zero
  | succ d ih =>
    intro hd e b cap w hr hz ht
    obtain ⟨k, n, s, l⟩ := e
    have hsz := sz_is ⟨k, n, s, l⟩
    simp only at hsz
    unfold Ex.cs
    simp only
    by_cases hbad : 1 ≤ l.length ∧ (3 ≤ l.length ∨ n ≠ 0 ∨ s ≠ E0)
    · exact term_bad d (by omega) k n s l b cap w (by omega) hbad.1 hbad.2
    · match l, hr, hz, hsz, hbad with
      | [], hr, hz, hsz, hbad => exact term_nil d (by omega) k n s b cap w (by omega) ht
      | [a], hr, hz, hsz, hbad =>
        have hn : n = 0 := Classical.byContradiction fun h => hbad ⟨by simp, .inr (.inl h)⟩
        have hs : s = E0 := Classical.byContradiction fun h => hbad ⟨by simp, .inr (.inr h)⟩
        subst hn hs
        exact term_one d (by omega) (ih (by omega)) k a b cap w hr (by simp [szX] at hsz; omega) ht
      | [a, a2], hr, hz, hsz, hbad =>
        have hn : n = 0 := Classical.byContradiction fun h => hbad ⟨by simp, .inr (.inl h)⟩
        have hs : s = E0 := Classical.byContradiction fun h => hbad ⟨by simp, .inr (.inr h)⟩
        subst hn hs
        exact term_two d (by omega) (ih (by omega)) k a a2 b cap w hr (by simp [szX] at hsz; omega) (by simp [szX] at hsz; omega) ht
      | a :: a2 :: a3 :: r, hr, hz, hsz, hbad => exact absurd ⟨by simp, .inl (by simp)⟩ hbad
end Go.Proofs.YtkolflcjkofleaaDoor

namespace Go.Proofs.YtkolflcjkofleaaDoor
open Go.ChangeShapes Go.WideShapes Go.ChangeAt Go.RowKit
set_option linter.unusedVariables false
set_option maxRecDepth 8000
set_option linter.unusedSimpArgs false

set_option maxHeartbeats 1000000 in
theorem okI_any (e : Ex) (b : Option Addr) (cap : Nat) (w : World) (hr : RdX w 0 e b) (hz : e.sz ≤ 1048576) (ht : TabK w) : Calls Tryd.prog 17 #[.agg (e.cs b cap)] w fun r w' => r = .returned (.bool (okF 6 false e)) ∧ Below w.heap.size w w' := by
  have B0 := below_new w (.cells (e.cs b cap) 26)
  have HH := hide (term_all 6 (by omega) e b cap _ (hr.later B0) hz (ht.next B0))
  have HB := hide B0
  clear hr B0 ht
  unfold TermR at HH
  generalize okF 6 false e = q at *
  unfold Ex.cs at HH HB ⊢
  generalize e.l.length = ll at *
  go_enter Tryd.func17, Tryd.ntmps17
  go_wp2_with fail
  refine (unhide HH).mono ?_
  rintro r w1 ⟨v, rfl, _, hb1⟩
  have BB := hide ((unhide HB).trans (hb1.mono (unhide HB).size))
  clear hb1 HH HB
  go_wp2
  go_ret
  exact ⟨rfl, unhide BB⟩
/-- The forms of a right term. -/
theorem ok_cases {d : Nat} {e : Ex} (h : okF (d + 1) false e = true) : (∃ n : Int, (0 ≤ n ∧ n ≤ 65535) ∧ e = ⟨1, n, E0, []⟩) ∨ (∃ s, nameB s = true ∧ e = ⟨2, 0, s, []⟩) ∨ e = ⟨3, 0, E0, []⟩ ∨ (∃ a, okF d false a = true ∧ e = ⟨4, 0, E0, [a]⟩) ∨ (∃ k a b, (5 ≤ k ∧ k ≤ 10) ∧ okF d false a = true ∧ okF d false b = true ∧ e = ⟨k, 0, E0, [a, b]⟩) ∨ (∃ n : Int, (0 ≤ n ∧ n ≤ 9) ∧ e = ⟨11, n, E0, []⟩) ∨ (∃ s, nameB s = true ∧ e = ⟨12, 0, s, []⟩) := by
  obtain ⟨k, n, s, l⟩ := e
  rw [okf_v, Bool.and_eq_true] at h
  obtain ⟨h1, h2⟩ := h
  match l, h1, h2 with
  | [], h1, _ =>
    have hn : k ≠ 1 → k ≠ 11 → n = 0 := fun g1 g2 => Classical.byContradiction fun hn => by
      unfold hereV Ex.here at h1
      rw [if_pos (by simp [g1, g2, hn])] at h1
      cases h1
    have hs : k ≠ 2 → k ≠ 12 → s = E0 := fun g1 g2 => Classical.byContradiction fun hn => by
      have es := (emp_E s hn).2
      unfold hereV Ex.here at h1
      rw [if_pos (by simp [g1, g2, es])] at h1
      cases h1
    by_cases k1 : k = 1
    · subst k1
      obtain rfl := hs (by decide) (by decide)
      rw [show hereV 1 n E0 ([] : List Ex).length = inB n 0 65535 by simp [hereV, Ex.here, eqE]] at h1
      exact .inl ⟨n, (inB_iff _ _ _).1 h1, rfl⟩
    by_cases k2 : k = 2
    · subst k2
      obtain rfl := hn (by decide) (by decide)
      rw [show hereV 2 0 s ([] : List Ex).length = nameB s by simp [hereV, Ex.here]] at h1
      exact .inr (.inl ⟨s, h1, rfl⟩)
    by_cases k11 : k = 11
    · subst k11
      obtain rfl := hs (by decide) (by decide)
      rw [show hereV 11 n E0 ([] : List Ex).length = inB n 0 9 by simp [hereV, Ex.here, eqE]] at h1
      exact .inr (.inr (.inr (.inr (.inr (.inl ⟨n, (inB_iff _ _ _).1 h1, rfl⟩)))))
    by_cases k12 : k = 12
    · subst k12
      obtain rfl := hn (by decide) (by decide)
      rw [show hereV 12 0 s ([] : List Ex).length = nameB s by simp [hereV, Ex.here]] at h1
      exact .inr (.inr (.inr (.inr (.inr (.inr ⟨s, h1, rfl⟩)))))
    obtain rfl := hn k1 k11
    obtain rfl := hs k2 k12
    by_cases k3 : k = 3
    · subst k3; exact .inr (.inr (.inl rfl))
    exfalso
    unfold hereV Ex.here at h1
    simp only [List.length_replicate, List.length_nil] at h1
    rw [if_neg (by simp [eqE]), if_neg k1, if_neg (by omega), if_neg k3] at h1
    repeat' (split at h1)
    all_goals first | cases h1 | exact absurd h1 (by decide) | omega
  | [a], h1, h2 =>
    have hn : n = 0 := Classical.byContradiction fun hn => by rw [hereV_n k n s _ (by simp) hn] at h1; cases h1
    have hs : s = E0 := Classical.byContradiction fun hn => by rw [hereV_s k n s _ (by simp) hn] at h1; cases h1
    subst hn hs
    have h3 : hereV k 0 ⟨#[]⟩ 1 = true := h1
    rw [here_one, beq_iff_eq] at h3
    subst h3
    exact .inr (.inr (.inr (.inl ⟨a, by simpa using h2, rfl⟩)))
  | [a, b], h1, h2 =>
    have hn : n = 0 := Classical.byContradiction fun hn => by rw [hereV_n k n s _ (by simp) hn] at h1; cases h1
    have hs : s = E0 := Classical.byContradiction fun hn => by rw [hereV_s k n s _ (by simp) hn] at h1; cases h1
    subst hn hs
    have h3 : hereV k 0 ⟨#[]⟩ 2 = true := h1
    rw [here_two] at h3
    have h4 : okF d false a = true ∧ okF d false b = true := by simpa using h2
    exact .inr (.inr (.inr (.inr (.inl ⟨k, a, b, (inB_iff _ _ _).1 h3, h4.1, h4.2, rfl⟩))))
  | a :: b :: c :: r, h1, _ => rw [here_more k n s _ (by simp)] at h1; cases h1
theorem plain_one (d : Nat) (a : Ex) : okF (d + 1) true ⟨4, 0, E0, [a]⟩ = okF d true a := by simp [okF, Ex.here, eqE]
theorem plain_pair (d : Nat) {k : Int} (hk : 5 ≤ k ∧ k ≤ 10) (a b : Ex) : okF (d + 1) true ⟨k, 0, E0, [a, b]⟩ = (okF d true a && okF d true b) := by
  have : k = 5 ∨ k = 6 ∨ k = 7 ∨ k = 8 ∨ k = 9 ∨ k = 10 := by omega
  rcases this with rfl | rfl | rfl | rfl | rfl | rfl <;> simp [okF, Ex.here, eqE]
end Go.Proofs.YtkolflcjkofleaaDoor

namespace Go.Proofs.YtkolflcjkofleaaDoor
open Go.ChangeShapes Go.WideShapes Go.ChangeAt Go.RowKit
set_option linter.unusedVariables false
set_option maxRecDepth 8000
set_option linter.unusedSimpArgs false

theorem ta_no {P : Program} {T u it : TypeId} {x z : Value} {fs : Array Field} (w : World) (hu : P.underlying u = some (.struct fs)) (hz : (zeroValue u).run P w = .ok z w) (h : T ≠ u) : (Instr.typeAssert (.iface T x) it u true).run P w = .ok (.tuple #[z, .bool false]) w := by
  simp [Instr.typeAssert, run_underlying hu, h, hz]
theorem taN_num (T : TypeId) (x : Value) (h : T ≠ 88) (w : World) : (Instr.typeAssert (.iface T x) 66 88 true).run Tryd.prog w = .ok (.tuple #[.agg #[.int .i64 0], .bool false]) w := ta_no w Tryd.underlying88 (by kernel_rfl) h
theorem taY_num (x : Value) (w : World) : (Instr.typeAssert (.iface 88 x) 66 88 true).run Tryd.prog w = .ok (.tuple #[x, .bool true]) w := by kernel_rfl
theorem taN_sym (T : TypeId) (x : Value) (h : T ≠ 117) (w : World) : (Instr.typeAssert (.iface T x) 66 117 true).run Tryd.prog w = .ok (.tuple #[.agg #[.string ⟨#[]⟩], .bool false]) w := ta_no w Tryd.underlying117 (by kernel_rfl) h
theorem taY_sym (x : Value) (w : World) : (Instr.typeAssert (.iface 117 x) 66 117 true).run Tryd.prog w = .ok (.tuple #[x, .bool true]) w := by kernel_rfl
theorem taN_here (T : TypeId) (x : Value) (h : T ≠ 130) (w : World) : (Instr.typeAssert (.iface T x) 66 130 true).run Tryd.prog w = .ok (.tuple #[.agg #[], .bool false]) w := ta_no w Tryd.underlying130 (by kernel_rfl) h
theorem taY_here (x : Value) (w : World) : (Instr.typeAssert (.iface 130 x) 66 130 true).run Tryd.prog w = .ok (.tuple #[x, .bool true]) w := by kernel_rfl
theorem taN_neg (T : TypeId) (x : Value) (h : T ≠ 104) (w : World) : (Instr.typeAssert (.iface T x) 66 104 true).run Tryd.prog w = .ok (.tuple #[.agg #[.nilIface], .bool false]) w := ta_no w Tryd.underlying104 (by kernel_rfl) h
theorem taY_neg (x : Value) (w : World) : (Instr.typeAssert (.iface 104 x) 66 104 true).run Tryd.prog w = .ok (.tuple #[x, .bool true]) w := by kernel_rfl
theorem taN_add (T : TypeId) (x : Value) (h : T ≠ 134) (w : World) : (Instr.typeAssert (.iface T x) 66 134 true).run Tryd.prog w = .ok (.tuple #[.agg #[.nilIface, .nilIface], .bool false]) w := ta_no w Tryd.underlying134 (by kernel_rfl) h
theorem taY_add (x : Value) (w : World) : (Instr.typeAssert (.iface 134 x) 66 134 true).run Tryd.prog w = .ok (.tuple #[x, .bool true]) w := by kernel_rfl
theorem taN_sub (T : TypeId) (x : Value) (h : T ≠ 135) (w : World) : (Instr.typeAssert (.iface T x) 66 135 true).run Tryd.prog w = .ok (.tuple #[.agg #[.nilIface, .nilIface], .bool false]) w := ta_no w Tryd.underlying135 (by kernel_rfl) h
theorem taY_sub (x : Value) (w : World) : (Instr.typeAssert (.iface 135 x) 66 135 true).run Tryd.prog w = .ok (.tuple #[x, .bool true]) w := by kernel_rfl
theorem taN_mul (T : TypeId) (x : Value) (h : T ≠ 136) (w : World) : (Instr.typeAssert (.iface T x) 66 136 true).run Tryd.prog w = .ok (.tuple #[.agg #[.nilIface, .nilIface], .bool false]) w := ta_no w Tryd.underlying136 (by kernel_rfl) h
theorem taY_mul (x : Value) (w : World) : (Instr.typeAssert (.iface 136 x) 66 136 true).run Tryd.prog w = .ok (.tuple #[x, .bool true]) w := by kernel_rfl
theorem taN_div (T : TypeId) (x : Value) (h : T ≠ 137) (w : World) : (Instr.typeAssert (.iface T x) 66 137 true).run Tryd.prog w = .ok (.tuple #[.agg #[.nilIface, .nilIface], .bool false]) w := ta_no w Tryd.underlying137 (by kernel_rfl) h
theorem taY_div (x : Value) (w : World) : (Instr.typeAssert (.iface 137 x) 66 137 true).run Tryd.prog w = .ok (.tuple #[x, .bool true]) w := by kernel_rfl
theorem taN_and (T : TypeId) (x : Value) (h : T ≠ 138) (w : World) : (Instr.typeAssert (.iface T x) 66 138 true).run Tryd.prog w = .ok (.tuple #[.agg #[.nilIface, .nilIface], .bool false]) w := ta_no w Tryd.underlying138 (by kernel_rfl) h
theorem taY_and (x : Value) (w : World) : (Instr.typeAssert (.iface 138 x) 66 138 true).run Tryd.prog w = .ok (.tuple #[x, .bool true]) w := by kernel_rfl
theorem taN_or (T : TypeId) (x : Value) (h : T ≠ 139) (w : World) : (Instr.typeAssert (.iface T x) 66 139 true).run Tryd.prog w = .ok (.tuple #[.agg #[.nilIface, .nilIface], .bool false]) w := ta_no w Tryd.underlying139 (by kernel_rfl) h
theorem taY_or (x : Value) (w : World) : (Instr.typeAssert (.iface 139 x) 66 139 true).run Tryd.prog w = .ok (.tuple #[x, .bool true]) w := by kernel_rfl
theorem taN_sect (T : TypeId) (x : Value) (h : T ≠ 115) (w : World) : (Instr.typeAssert (.iface T x) 66 115 true).run Tryd.prog w = .ok (.tuple #[.agg #[.int .i64 0], .bool false]) w := ta_no w Tryd.underlying115 (by kernel_rfl) h
theorem taY_sect (x : Value) (w : World) : (Instr.typeAssert (.iface 115 x) 66 115 true).run Tryd.prog w = .ok (.tuple #[x, .bool true]) w := by kernel_rfl
theorem taN_glob (T : TypeId) (x : Value) (h : T ≠ 118) (w : World) : (Instr.typeAssert (.iface T x) 66 118 true).run Tryd.prog w = .ok (.tuple #[.agg #[.string ⟨#[]⟩], .bool false]) w := ta_no w Tryd.underlying118 (by kernel_rfl) h
theorem taY_glob (x : Value) (w : World) : (Instr.typeAssert (.iface 118 x) 66 118 true).run Tryd.prog w = .ok (.tuple #[x, .bool true]) w := by kernel_rfl
theorem me_num (c : Value) (w : World) : (method 271 88 (.agg #[c]) "loop.example/g00329/impl.parts").run Tryd.prog w = .ok (121, .agg #[]) w := by kernel_rfl
theorem me_sym (c : Value) (w : World) : (method 271 117 (.agg #[c]) "loop.example/g00329/impl.parts").run Tryd.prog w = .ok (121, .agg #[]) w := by kernel_rfl
theorem me_sect (c : Value) (w : World) : (method 271 115 (.agg #[c]) "loop.example/g00329/impl.parts").run Tryd.prog w = .ok (121, .agg #[]) w := by kernel_rfl
theorem me_glob (c : Value) (w : World) : (method 271 118 (.agg #[c]) "loop.example/g00329/impl.parts").run Tryd.prog w = .ok (121, .agg #[]) w := by kernel_rfl
theorem me_here (w : World) : (method 271 130 (.agg #[]) "loop.example/g00329/impl.parts").run Tryd.prog w = .ok (121, .agg #[]) w := by kernel_rfl
theorem me_neg (c : Value) (w : World) : (method 271 104 (.agg #[c]) "loop.example/g00329/impl.parts").run Tryd.prog w = .ok (122, .agg #[c]) w := by kernel_rfl
theorem me_add (c d : Value) (w : World) : (method 271 134 (.agg #[c, d]) "loop.example/g00329/impl.parts").run Tryd.prog w = .ok (123, .agg #[c, d]) w := by kernel_rfl
theorem me_sub (c d : Value) (w : World) : (method 271 135 (.agg #[c, d]) "loop.example/g00329/impl.parts").run Tryd.prog w = .ok (123, .agg #[c, d]) w := by kernel_rfl
theorem me_mul (c d : Value) (w : World) : (method 271 136 (.agg #[c, d]) "loop.example/g00329/impl.parts").run Tryd.prog w = .ok (123, .agg #[c, d]) w := by kernel_rfl
theorem me_div (c d : Value) (w : World) : (method 271 137 (.agg #[c, d]) "loop.example/g00329/impl.parts").run Tryd.prog w = .ok (123, .agg #[c, d]) w := by kernel_rfl
theorem me_and (c d : Value) (w : World) : (method 271 138 (.agg #[c, d]) "loop.example/g00329/impl.parts").run Tryd.prog w = .ok (123, .agg #[c, d]) w := by kernel_rfl
theorem me_or (c d : Value) (w : World) : (method 271 139 (.agg #[c, d]) "loop.example/g00329/impl.parts").run Tryd.prog w = .ok (123, .agg #[c, d]) w := by kernel_rfl
set_option maxHeartbeats 1000000 in
theorem parts0 (w : World) : Calls Tryd.prog 121 #[.agg #[]] w fun r w' => r = .returned (.slice none 0 0) ∧ Below w.heap.size w w' := by
  go_enter Tryd.func121, Tryd.ntmps121
  go_wp2
  go_ret
  exact ⟨rfl, by first | exact Below.refl _ _ | exact below_new w _⟩
theorem two_new (w : World) (o1 o2 : Obj) : ((w.alloc o1).alloc o2).heap[w.heap.size + 1]? = some o2 ∧ Below w.heap.size w ((w.alloc o1).alloc o2) := by
  have h1 : (w.alloc o1).heap.size = w.heap.size + 1 := by simp
  refine ⟨?_, ((Below.refl _ _).alloc (Nat.le_refl _) _).alloc (by simp) _⟩
  rw [← h1]
  exact Array.getElem?_push_size
set_option maxHeartbeats 1000000 in
theorem parts1 (t : TypeId) (x : Value) (w : World) : Calls Tryd.prog 122 #[.agg #[.iface t x]] w fun r w' => ∃ g, r = .returned (.slice (some ⟨g, 0, none⟩) 1 1) ∧ w'.heap[g]? = some (.cells #[.iface t x] 66 (0, 0)) ∧ Below w.heap.size w w' := by
  have T := hide (two_new w (.cells #[.iface t x] 104) (.cells #[.iface t x] 66))
  go_enter Tryd.func122, Tryd.ntmps122
  go_wp2
  go_ret
  exact ⟨_, rfl, (unhide T).1, (unhide T).2⟩
set_option maxHeartbeats 1000000 in
theorem parts2 (t u : TypeId) (x y : Value) (w : World) : Calls Tryd.prog 123 #[.agg #[.iface t x, .iface u y]] w fun r w' => ∃ g, r = .returned (.slice (some ⟨g, 0, none⟩) 2 2) ∧ w'.heap[g]? = some (.cells #[.iface t x, .iface u y] 66 (0, 0)) ∧ Below w.heap.size w w' := by
  have T := hide (two_new w (.cells #[.iface t x, .iface u y] 107) (.cells #[.iface t x, .iface u y] 66))
  go_enter Tryd.func123, Tryd.ntmps123
  go_wp2
  go_ret
  exact ⟨_, rfl, (unhide T).1, (unhide T).2⟩
end Go.Proofs.YtkolflcjkofleaaDoor

namespace Go.Proofs.YtkolflcjkofleaaDoor
open Go.ChangeShapes Go.WideShapes Go.ChangeAt Go.RowKit
set_option linter.unusedVariables false
set_option maxRecDepth 8000
set_option linter.unusedSimpArgs false

set_option maxHeartbeats 2000000 in
theorem kind_num (n : Int) (s : ByteArray) (t u : TypeId) (x y : Value) (w : World) : Calls Tryd.prog 71 #[.iface 88 (.agg #[.int .i64 n])] w fun r w' => r = .returned (.int .i64 1) ∧ w' = w := by
  have tt := taY_num (.agg #[.int .i64 n])
  go_enter Tryd.func71, Tryd.ntmps71
  go_wp2
  go_ret
  exact ⟨rfl, rfl⟩
set_option maxHeartbeats 2000000 in
theorem kind_sym (n : Int) (s : ByteArray) (t u : TypeId) (x y : Value) (w : World) : Calls Tryd.prog 71 #[.iface 117 (.agg #[.string s])] w fun r w' => r = .returned (.int .i64 2) ∧ w' = w := by
  have t0 := taN_num 117 (.agg #[.string s]) (by decide)
  have tt := taY_sym (.agg #[.string s])
  go_enter Tryd.func71, Tryd.ntmps71
  go_wp2
  go_ret
  exact ⟨rfl, rfl⟩
set_option maxHeartbeats 2000000 in
theorem kind_here (n : Int) (s : ByteArray) (t u : TypeId) (x y : Value) (w : World) : Calls Tryd.prog 71 #[.iface 130 (.agg #[])] w fun r w' => r = .returned (.int .i64 3) ∧ w' = w := by
  have t0 := taN_num 130 (.agg #[]) (by decide)
  have t1 := taN_sym 130 (.agg #[]) (by decide)
  have tt := taY_here (.agg #[])
  go_enter Tryd.func71, Tryd.ntmps71
  go_wp2
  go_ret
  exact ⟨rfl, rfl⟩
set_option maxHeartbeats 2000000 in
theorem kind_neg (n : Int) (s : ByteArray) (t u : TypeId) (x y : Value) (w : World) : Calls Tryd.prog 71 #[.iface 104 (.agg #[.iface t x])] w fun r w' => r = .returned (.int .i64 4) ∧ w' = w := by
  have t0 := taN_num 104 (.agg #[.iface t x]) (by decide)
  have t1 := taN_sym 104 (.agg #[.iface t x]) (by decide)
  have t2 := taN_here 104 (.agg #[.iface t x]) (by decide)
  have tt := taY_neg (.agg #[.iface t x])
  go_enter Tryd.func71, Tryd.ntmps71
  go_wp2
  go_ret
  exact ⟨rfl, rfl⟩
set_option maxHeartbeats 2000000 in
theorem kind_add (n : Int) (s : ByteArray) (t u : TypeId) (x y : Value) (w : World) : Calls Tryd.prog 71 #[.iface 134 (.agg #[.iface t x, .iface u y])] w fun r w' => r = .returned (.int .i64 5) ∧ w' = w := by
  have t0 := taN_num 134 (.agg #[.iface t x, .iface u y]) (by decide)
  have t1 := taN_sym 134 (.agg #[.iface t x, .iface u y]) (by decide)
  have t2 := taN_here 134 (.agg #[.iface t x, .iface u y]) (by decide)
  have t3 := taN_neg 134 (.agg #[.iface t x, .iface u y]) (by decide)
  have tt := taY_add (.agg #[.iface t x, .iface u y])
  go_enter Tryd.func71, Tryd.ntmps71
  go_wp2
  go_ret
  exact ⟨rfl, rfl⟩
set_option maxHeartbeats 2000000 in
theorem kind_sub (n : Int) (s : ByteArray) (t u : TypeId) (x y : Value) (w : World) : Calls Tryd.prog 71 #[.iface 135 (.agg #[.iface t x, .iface u y])] w fun r w' => r = .returned (.int .i64 6) ∧ w' = w := by
  have t0 := taN_num 135 (.agg #[.iface t x, .iface u y]) (by decide)
  have t1 := taN_sym 135 (.agg #[.iface t x, .iface u y]) (by decide)
  have t2 := taN_here 135 (.agg #[.iface t x, .iface u y]) (by decide)
  have t3 := taN_neg 135 (.agg #[.iface t x, .iface u y]) (by decide)
  have t4 := taN_add 135 (.agg #[.iface t x, .iface u y]) (by decide)
  have tt := taY_sub (.agg #[.iface t x, .iface u y])
  go_enter Tryd.func71, Tryd.ntmps71
  go_wp2
  go_ret
  exact ⟨rfl, rfl⟩
set_option maxHeartbeats 2000000 in
theorem kind_mul (n : Int) (s : ByteArray) (t u : TypeId) (x y : Value) (w : World) : Calls Tryd.prog 71 #[.iface 136 (.agg #[.iface t x, .iface u y])] w fun r w' => r = .returned (.int .i64 7) ∧ w' = w := by
  have t0 := taN_num 136 (.agg #[.iface t x, .iface u y]) (by decide)
  have t1 := taN_sym 136 (.agg #[.iface t x, .iface u y]) (by decide)
  have t2 := taN_here 136 (.agg #[.iface t x, .iface u y]) (by decide)
  have t3 := taN_neg 136 (.agg #[.iface t x, .iface u y]) (by decide)
  have t4 := taN_add 136 (.agg #[.iface t x, .iface u y]) (by decide)
  have t5 := taN_sub 136 (.agg #[.iface t x, .iface u y]) (by decide)
  have tt := taY_mul (.agg #[.iface t x, .iface u y])
  go_enter Tryd.func71, Tryd.ntmps71
  go_wp2
  go_ret
  exact ⟨rfl, rfl⟩
set_option maxHeartbeats 2000000 in
theorem kind_div (n : Int) (s : ByteArray) (t u : TypeId) (x y : Value) (w : World) : Calls Tryd.prog 71 #[.iface 137 (.agg #[.iface t x, .iface u y])] w fun r w' => r = .returned (.int .i64 8) ∧ w' = w := by
  have t0 := taN_num 137 (.agg #[.iface t x, .iface u y]) (by decide)
  have t1 := taN_sym 137 (.agg #[.iface t x, .iface u y]) (by decide)
  have t2 := taN_here 137 (.agg #[.iface t x, .iface u y]) (by decide)
  have t3 := taN_neg 137 (.agg #[.iface t x, .iface u y]) (by decide)
  have t4 := taN_add 137 (.agg #[.iface t x, .iface u y]) (by decide)
  have t5 := taN_sub 137 (.agg #[.iface t x, .iface u y]) (by decide)
  have t6 := taN_mul 137 (.agg #[.iface t x, .iface u y]) (by decide)
  have tt := taY_div (.agg #[.iface t x, .iface u y])
  go_enter Tryd.func71, Tryd.ntmps71
  go_wp2
  go_ret
  exact ⟨rfl, rfl⟩
set_option maxHeartbeats 2000000 in
theorem kind_and (n : Int) (s : ByteArray) (t u : TypeId) (x y : Value) (w : World) : Calls Tryd.prog 71 #[.iface 138 (.agg #[.iface t x, .iface u y])] w fun r w' => r = .returned (.int .i64 9) ∧ w' = w := by
  have t0 := taN_num 138 (.agg #[.iface t x, .iface u y]) (by decide)
  have t1 := taN_sym 138 (.agg #[.iface t x, .iface u y]) (by decide)
  have t2 := taN_here 138 (.agg #[.iface t x, .iface u y]) (by decide)
  have t3 := taN_neg 138 (.agg #[.iface t x, .iface u y]) (by decide)
  have t4 := taN_add 138 (.agg #[.iface t x, .iface u y]) (by decide)
  have t5 := taN_sub 138 (.agg #[.iface t x, .iface u y]) (by decide)
  have t6 := taN_mul 138 (.agg #[.iface t x, .iface u y]) (by decide)
  have t7 := taN_div 138 (.agg #[.iface t x, .iface u y]) (by decide)
  have tt := taY_and (.agg #[.iface t x, .iface u y])
  go_enter Tryd.func71, Tryd.ntmps71
  go_wp2
  go_ret
  exact ⟨rfl, rfl⟩
set_option maxHeartbeats 2000000 in
theorem kind_or (n : Int) (s : ByteArray) (t u : TypeId) (x y : Value) (w : World) : Calls Tryd.prog 71 #[.iface 139 (.agg #[.iface t x, .iface u y])] w fun r w' => r = .returned (.int .i64 10) ∧ w' = w := by
  have t0 := taN_num 139 (.agg #[.iface t x, .iface u y]) (by decide)
  have t1 := taN_sym 139 (.agg #[.iface t x, .iface u y]) (by decide)
  have t2 := taN_here 139 (.agg #[.iface t x, .iface u y]) (by decide)
  have t3 := taN_neg 139 (.agg #[.iface t x, .iface u y]) (by decide)
  have t4 := taN_add 139 (.agg #[.iface t x, .iface u y]) (by decide)
  have t5 := taN_sub 139 (.agg #[.iface t x, .iface u y]) (by decide)
  have t6 := taN_mul 139 (.agg #[.iface t x, .iface u y]) (by decide)
  have t7 := taN_div 139 (.agg #[.iface t x, .iface u y]) (by decide)
  have t8 := taN_and 139 (.agg #[.iface t x, .iface u y]) (by decide)
  have tt := taY_or (.agg #[.iface t x, .iface u y])
  go_enter Tryd.func71, Tryd.ntmps71
  go_wp2
  go_ret
  exact ⟨rfl, rfl⟩
set_option maxHeartbeats 2000000 in
theorem kind_sect (n : Int) (s : ByteArray) (t u : TypeId) (x y : Value) (w : World) : Calls Tryd.prog 71 #[.iface 115 (.agg #[.int .i64 n])] w fun r w' => r = .returned (.int .i64 11) ∧ w' = w := by
  have t0 := taN_num 115 (.agg #[.int .i64 n]) (by decide)
  have t1 := taN_sym 115 (.agg #[.int .i64 n]) (by decide)
  have t2 := taN_here 115 (.agg #[.int .i64 n]) (by decide)
  have t3 := taN_neg 115 (.agg #[.int .i64 n]) (by decide)
  have t4 := taN_add 115 (.agg #[.int .i64 n]) (by decide)
  have t5 := taN_sub 115 (.agg #[.int .i64 n]) (by decide)
  have t6 := taN_mul 115 (.agg #[.int .i64 n]) (by decide)
  have t7 := taN_div 115 (.agg #[.int .i64 n]) (by decide)
  have t8 := taN_and 115 (.agg #[.int .i64 n]) (by decide)
  have t9 := taN_or 115 (.agg #[.int .i64 n]) (by decide)
  have tt := taY_sect (.agg #[.int .i64 n])
  go_enter Tryd.func71, Tryd.ntmps71
  go_wp2
  go_ret
  exact ⟨rfl, rfl⟩
set_option maxHeartbeats 2000000 in
theorem kind_glob (n : Int) (s : ByteArray) (t u : TypeId) (x y : Value) (w : World) : Calls Tryd.prog 71 #[.iface 118 (.agg #[.string s])] w fun r w' => r = .returned (.int .i64 12) ∧ w' = w := by
  have t0 := taN_num 118 (.agg #[.string s]) (by decide)
  have t1 := taN_sym 118 (.agg #[.string s]) (by decide)
  have t2 := taN_here 118 (.agg #[.string s]) (by decide)
  have t3 := taN_neg 118 (.agg #[.string s]) (by decide)
  have t4 := taN_add 118 (.agg #[.string s]) (by decide)
  have t5 := taN_sub 118 (.agg #[.string s]) (by decide)
  have t6 := taN_mul 118 (.agg #[.string s]) (by decide)
  have t7 := taN_div 118 (.agg #[.string s]) (by decide)
  have t8 := taN_and 118 (.agg #[.string s]) (by decide)
  have t9 := taN_or 118 (.agg #[.string s]) (by decide)
  have t10 := taN_sect 118 (.agg #[.string s]) (by decide)
  have tt := taY_glob (.agg #[.string s])
  go_enter Tryd.func71, Tryd.ntmps71
  go_wp2
  go_ret
  exact ⟨rfl, rfl⟩
theorem kindI_any {d : Nat} {e : Ex} (h : okF d false e = true) (w : World) : Calls Tryd.prog 71 #[tv e] w fun r w' => r = .returned (.int .i64 e.k) ∧ w' = w := by
  cases d with
  | zero => cases h
  | succ d =>
    rcases ok_cases h with ⟨n, hn, rfl⟩ | ⟨s, hs, rfl⟩ | rfl | ⟨a, ha, rfl⟩ | ⟨k, a, b, hk, ha, hb, rfl⟩ | ⟨n, hn, rfl⟩ | ⟨s, hs, rfl⟩
    · rw [tv_num]; exact kind_num n E0 0 0 .nilIface .nilIface w
    · rw [tv_sym]; exact kind_sym 0 s 0 0 .nilIface .nilIface w
    · rw [tv_here]; exact kind_here 0 E0 0 0 .nilIface .nilIface w
    · obtain ⟨t, x, e1⟩ := tv_if a
      rw [tv_neg, e1]; exact kind_neg 0 E0 t 0 x .nilIface w
    · obtain ⟨t, x, e1⟩ := tv_if a
      obtain ⟨u, y, e2⟩ := tv_if b
      rw [tv_two hk, e1, e2]
      have : k = 5 ∨ k = 6 ∨ k = 7 ∨ k = 8 ∨ k = 9 ∨ k = 10 := by omega
      rcases this with rfl | rfl | rfl | rfl | rfl | rfl
      · exact kind_add 0 E0 t u x y w
      · exact kind_sub 0 E0 t u x y w
      · exact kind_mul 0 E0 t u x y w
      · exact kind_div 0 E0 t u x y w
      · exact kind_and 0 E0 t u x y w
      · exact kind_or 0 E0 t u x y w
    · rw [tv_sect]; exact kind_sect n E0 0 0 .nilIface .nilIface w
    · rw [tv_glob]; exact kind_glob 0 s 0 0 .nilIface .nilIface w
end Go.Proofs.YtkolflcjkofleaaDoor

namespace Go.Proofs.YtkolflcjkofleaaDoor
open Go.ChangeShapes Go.WideShapes Go.ChangeAt Go.RowKit
set_option linter.unusedVariables false
set_option linter.unusedSimpArgs false

/-- The forms of a right term. -/
theorem ok_sev {d : Nat} {e : Ex} (h : okF (d + 1) false e = true) : (∃ n : Int, (0 ≤ n ∧ n ≤ 65535) ∧ e = ⟨1, n, E0, []⟩) ∨ (∃ s, nameB s = true ∧ e = ⟨2, 0, s, []⟩) ∨ e = ⟨3, 0, E0, []⟩ ∨ (∃ n : Int, (0 ≤ n ∧ n ≤ 9) ∧ e = ⟨11, n, E0, []⟩) ∨ (∃ s, nameB s = true ∧ e = ⟨12, 0, s, []⟩) ∨ (∃ a, okF d false a = true ∧ e = ⟨4, 0, E0, [a]⟩) ∨ (∃ k a b, (5 ≤ k ∧ k ≤ 10) ∧ okF d false a = true ∧ okF d false b = true ∧ e = ⟨k, 0, E0, [a, b]⟩) := by
  obtain ⟨k, n, s, l⟩ := e
  simp only [okF, Bool.and_eq_true, Bool.false_and, Bool.not_false, true_and] at h
  obtain ⟨h1, hall⟩ := h
  unfold Ex.here at h1
  simp only at h1
  split at h1
  · cases h1
  · rename_i hg
    have hg : ((k != 1 && (k != 11 && n != 0)) || (k != 2 && (k != 12 && !eqS s E0))) = false := by simpa using hg
    rw [Bool.or_eq_false_iff] at hg
    have hn : k ≠ 1 → k ≠ 11 → n = 0 := fun hk hk2 => by have := hg.1; simpa [hk, hk2] using this
    have hs : k ≠ 2 → k ≠ 12 → s = E0 := fun hk hk2 => by
      have := hg.2
      have h3 : eqS s E0 = true := by simpa [hk, hk2] using this
      exact (eqS_iff _ _).1 h3
    split at h1
    · rename_i e; subst e
      rw [Bool.and_eq_true, beq_iff_eq, List.length_eq_zero_iff] at h1
      obtain ⟨hi, rfl⟩ := h1
      exact .inl ⟨n, (inB_iff _ _ _).1 hi, by rw [hs (by decide) (by decide)]⟩
    · rename_i k1
      split at h1
      · rename_i e
        rw [Bool.and_eq_true, beq_iff_eq, List.length_eq_zero_iff] at h1
        obtain ⟨hi, rfl⟩ := h1
        rcases e with rfl | rfl
        · exact .inr (.inl ⟨s, hi, by rw [hn (by decide) (by decide)]⟩)
        · exact .inr (.inr (.inr (.inr (.inl ⟨s, hi, by rw [hn (by decide) (by decide)]⟩))))
      · rename_i k2
        have k3 : k ≠ 2 := fun e => k2 (.inl e)
        have k4 : k ≠ 12 := fun e => k2 (.inr e)
        obtain rfl := hs k3 k4
        split at h1
        · rename_i e; subst e
          rw [beq_iff_eq, List.length_eq_zero_iff] at h1
          subst h1
          exact .inr (.inr (.inl (by rw [hn (by decide) (by decide)])))
        · split at h1
          · rename_i e; subst e
            rw [beq_iff_eq] at h1
            obtain rfl := hn (by decide) (by decide)
            match l, h1 with
            | [a], _ => exact .inr (.inr (.inr (.inr (.inr (.inl ⟨a, by simpa using hall, rfl⟩)))))
          · split at h1
            · rename_i e
              rw [beq_iff_eq] at h1
              obtain rfl := hn k1 (by omega)
              match l, h1 with
              | [a, b], _ =>
                have : okF d false a = true ∧ okF d false b = true := by simpa using hall
                exact .inr (.inr (.inr (.inr (.inr (.inr ⟨k, a, b, e, this.1, this.2, rfl⟩)))))
            · split at h1
              · rename_i e; subst e
                rw [Bool.and_eq_true, beq_iff_eq, List.length_eq_zero_iff] at h1
                obtain ⟨hi, rfl⟩ := h1
                exact .inr (.inr (.inr (.inl ⟨n, (inB_iff _ _ _).1 hi, rfl⟩)))
              · cases h1
theorem ok_num {d : Nat} {n : Int} (h : 0 ≤ n ∧ n ≤ 65535) : okF (d + 1) false ⟨1, n, E0, []⟩ = true := by
  have : inB n 0 65535 = true := (inB_iff _ _ _).2 h
  simp [okF, Ex.here, this, show eqS E0 E0 = true from (eqS_iff _ _).2 rfl]
theorem ok_neg {d : Nat} {a : Ex} (h : okF d false a = true) : okF (d + 1) false ⟨4, 0, E0, [a]⟩ = true := by
  simp [okF, Ex.here, h, show eqS E0 E0 = true from (eqS_iff _ _).2 rfl]
theorem ok_two {d : Nat} {k : Int} {a b : Ex} (hk : 5 ≤ k ∧ k ≤ 10) (ha : okF d false a = true) (hb : okF d false b = true) : okF (d + 1) false ⟨k, 0, E0, [a, b]⟩ = true := by
  have : k = 5 ∨ k = 6 ∨ k = 7 ∨ k = 8 ∨ k = 9 ∨ k = 10 := by omega
  rcases this with rfl | rfl | rfl | rfl | rfl | rfl <;> simp [okF, Ex.here, ha, hb, show eqS E0 E0 = true from (eqS_iff _ _).2 rfl]
theorem ok_more : ∀ (d : Nat) (p : Bool) (e : Ex), okF d p e = true → okF (d + 1) p e = true := by
  intro d
  induction d with
  | zero => intro p e h; rw [okF] at h; cases h
  | succ d ih =>
    intro p e h
    rw [okF] at h ⊢
    rw [Bool.and_eq_true, Bool.and_eq_true, List.all_eq_true] at h ⊢
    exact ⟨h.1, h.2.1, fun x hx => ih p x (h.2.2 x hx)⟩
theorem ok_upto {d D : Nat} {p : Bool} {e : Ex} (h : okF d p e = true) (hd : d ≤ D) : okF D p e = true := by
  obtain ⟨k, rfl⟩ := Nat.le.dest hd
  clear hd
  induction k with
  | zero => exact h
  | succ k ih => exact ok_more _ _ _ ih
/-- A number's rest of 65536. -/
def wr (n : Int) : Int := n % 65536
theorem wr_in (n : Int) : 0 ≤ wr n ∧ wr n ≤ 65535 := by unfold wr; omega
theorem wr_of {n : Int} (h : 0 ≤ n ∧ n ≤ 65535) : wr n = n := by unfold wr; omega
def numX (n : Int) : Ex := ⟨1, wr n, E0, []⟩
/-- The number of two words, by the kind; none where it is divided by nothing. -/
def two11 (k a b : Int) : Option Int :=
  if k = 5 then some (wr (a + b)) else if k = 6 then some (wr (a - b)) else if k = 7 then some (wr (a * b))
  else if k = 9 then some (bits .and .i64 a b) else if k = 10 then some (bits .or .i64 a b)
  else if b = 0 then none else some (a / b)
/-- A term and a number together. -/
def addX (a : Ex) (n : Int) : Ex := if wr n = 0 then a else ⟨5, 0, E0, [a, numX n]⟩
/-- What a term is beside the number that is added to it. -/
def prtX (e : Ex) : Ex × Int := if e.k = 5 ∧ (xAt e.l 1).k = 1 then (xAt e.l 0, (xAt e.l 1).n) else (e, 0)
def sumX (a : Ex) (n : Int) : Ex := addX (prtX a).1 ((prtX a).2 + n)
def subX (a b : Ex) : Ex :=
  if b.k = 1 then sumX a (-b.n)
  else if (prtX a).1.k = 11 ∧ (prtX b).1.k = 11 ∧ (prtX a).1.n = (prtX b).1.n then numX ((prtX a).2 - (prtX b).2)
  else ⟨6, 0, E0, [a, b]⟩
def negX (a : Ex) : Ex := if a.k = 1 then numX (-a.n) else ⟨4, 0, E0, [a]⟩
/-- What two that are folded make, without two numbers. -/
def mixX (k : Int) (a b : Ex) : Ex := if k = 6 then subX a b else if k = 5 ∧ a.k = 1 then sumX b a.n else if k = 5 ∧ b.k = 1 then sumX a b.n else ⟨k, 0, E0, [a, b]⟩
def foldN (k : Int) (a b : Ex) : Ex := if a.k = 1 ∧ b.k = 1 then (match two11 k a.n b.n with | some n => numX n | none => mixX k a b) else mixX k a b
def foldC (k n : Int) (s : ByteArray) : List Ex → Ex
  | [] => ⟨k, n, s, []⟩
  | [a] => negX a
  | a :: b :: _ => foldN k a b
/-- A term, folded. -/
def foldX : Ex → Ex
  | ⟨k, n, s, l⟩ => foldC k n s (l.map foldX)
theorem fold_leaf (k n : Int) (s : ByteArray) : foldX ⟨k, n, s, []⟩ = ⟨k, n, s, []⟩ := by rw [foldX]; rfl
theorem fold_neg (k n : Int) (s : ByteArray) (a : Ex) : foldX ⟨k, n, s, [a]⟩ = negX (foldX a) := by rw [foldX]; rfl
theorem fold_two (k n : Int) (s : ByteArray) (a b : Ex) : foldX ⟨k, n, s, [a, b]⟩ = foldN k (foldX a) (foldX b) := by rw [foldX]; rfl
theorem num_ok (d : Nat) (n : Int) : okF (d + 1) false (numX n) = true := ok_num (wr_in n)
theorem ok_pos {d : Nat} {e : Ex} (h : okF d false e = true) : ∃ c, d = c + 1 := by
  cases d with
  | zero => rw [okF] at h; cases h
  | succ c => exact ⟨c, rfl⟩
theorem add_ok {d : Nat} {a : Ex} (h : okF d false a = true) (n : Int) : okF (d + 1) false (addX a n) = true := by
  unfold addX
  split
  · exact ok_more _ _ _ h
  · obtain ⟨c, rfl⟩ := ok_pos h
    exact ok_two (by omega) h (num_ok c n)
/-- What a right term is beside its number: the same, or the first of two, where the second is a number. -/
theorem prt_cases {d : Nat} {a : Ex} (h : okF (d + 1) false a = true) : (prtX a = (a, 0) ∧ ¬ (a.k = 5 ∧ (xAt a.l 1).k = 1)) ∨ ∃ b m, (0 ≤ m ∧ m ≤ 65535) ∧ a = ⟨5, 0, E0, [b, ⟨1, m, E0, []⟩]⟩ ∧ prtX a = (b, m) ∧ okF d false b = true := by
  by_cases hc : a.k = 5 ∧ (xAt a.l 1).k = 1
  · right
    rcases ok_sev h with ⟨n, hn, rfl⟩ | ⟨s, hs, rfl⟩ | rfl | ⟨n, hn, rfl⟩ | ⟨s, hs, rfl⟩ | ⟨a, ha, rfl⟩ | ⟨k, a, b, hk, ha, hb, rfl⟩
    · exact absurd (show (1 : Int) = 5 from hc.1) (by decide)
    · exact absurd (show (2 : Int) = 5 from hc.1) (by decide)
    · exact absurd (show (3 : Int) = 5 from hc.1) (by decide)
    · exact absurd (show (11 : Int) = 5 from hc.1) (by decide)
    · exact absurd (show (12 : Int) = 5 from hc.1) (by decide)
    · exact absurd (show (4 : Int) = 5 from hc.1) (by decide)
    obtain rfl : k = 5 := hc.1
    have hb1 : b.k = 1 := hc.2
    obtain ⟨c, rfl⟩ := ok_pos hb
    rcases ok_sev hb with ⟨n, hn, rfl⟩ | ⟨s, hs, rfl⟩ | rfl | ⟨n, hn, rfl⟩ | ⟨s, hs, rfl⟩ | ⟨a', ha', rfl⟩ | ⟨k, a', b', hk, ha', hb', rfl⟩
    · exact ⟨a, n, hn, rfl, rfl, ha⟩
    · exact absurd (show (2 : Int) = 1 from hb1) (by decide)
    · exact absurd (show (3 : Int) = 1 from hb1) (by decide)
    · exact absurd (show (11 : Int) = 1 from hb1) (by decide)
    · exact absurd (show (12 : Int) = 1 from hb1) (by decide)
    · exact absurd (show (4 : Int) = 1 from hb1) (by decide)
    · have : k = 1 := hb1
      omega
  · left
    unfold prtX
    rw [if_neg hc]
    exact ⟨rfl, hc⟩
theorem sum_ok {d : Nat} {a : Ex} (h : okF d false a = true) (n : Int) : okF (d + 1) false (sumX a n) = true := by
  obtain ⟨c, rfl⟩ := ok_pos h
  unfold sumX
  rcases prt_cases h with ⟨e, _⟩ | ⟨b, m, hm, rfl, e, hb⟩
  · rw [e]; exact add_ok h _
  · rw [e]; exact ok_more _ _ _ (add_ok hb _)
theorem sub_ok {d : Nat} {a b : Ex} (ha : okF d false a = true) (hb : okF d false b = true) : okF (d + 1) false (subX a b) = true := by
  unfold subX
  split
  · exact sum_ok ha _
  · split
    · exact num_ok d _
    · exact ok_two (by omega) ha hb
theorem mix_ok {d : Nat} {k : Int} {a b : Ex} (hk : 5 ≤ k ∧ k ≤ 10) (ha : okF d false a = true) (hb : okF d false b = true) : okF (d + 1) false (mixX k a b) = true := by
  unfold mixX
  split
  · exact sub_ok ha hb
  · split
    · exact sum_ok hb _
    · split
      · exact sum_ok ha _
      · exact ok_two hk ha hb
theorem foldN_ok {d : Nat} {k : Int} {a b : Ex} (hk : 5 ≤ k ∧ k ≤ 10) (ha : okF d false a = true) (hb : okF d false b = true) : okF (d + 1) false (foldN k a b) = true := by
  unfold foldN
  split
  · split
    · exact num_ok d _
    · exact mix_ok hk ha hb
  · exact mix_ok hk ha hb
theorem neg_ok {d : Nat} {a : Ex} (h : okF d false a = true) : okF (d + 1) false (negX a) = true := by
  unfold negX
  split
  · exact num_ok d _
  · exact ok_neg h
/-- What is folded is right, and no deeper. -/
theorem fold_ok : ∀ (d : Nat) (e : Ex), okF d false e = true → okF d false (foldX e) = true := by
  intro d
  induction d with
  | zero => intro e h; rw [okF] at h; cases h
  | succ d ih =>
    intro e h
    have h0 := h
    rcases ok_sev h with ⟨n, hn, rfl⟩ | ⟨s, hs, rfl⟩ | rfl | ⟨n, hn, rfl⟩ | ⟨s, hs, rfl⟩ | ⟨a, ha, rfl⟩ | ⟨k, a, b, hk, ha, hb, rfl⟩
    · rw [fold_leaf]; exact h0
    · rw [fold_leaf]; exact h0
    · rw [fold_leaf]; exact h0
    · rw [fold_leaf]; exact h0
    · rw [fold_leaf]; exact h0
    · rw [fold_neg]; exact neg_ok (ih a ha)
    · rw [fold_two]; exact foldN_ok hk (ih a ha) (ih b hb)
/-- Folded no further. -/
def Nf (e : Ex) : Prop := foldX e = e
theorem num_nf (n : Int) : Nf (numX n) := by unfold Nf numX; exact fold_leaf _ _ _
theorem nf_two {k : Int} {a b : Ex} (ha : Nf a) (hb : Nf b) (h : foldN k a b = ⟨k, 0, E0, [a, b]⟩) : Nf ⟨k, 0, E0, [a, b]⟩ := by
  unfold Nf at *
  rw [fold_two, ha, hb, h]
theorem ex_sz {a b : Ex} (h : a = b) : a.dp = b.dp := by rw [h]
theorem ne_two (k : Int) (a b : Ex) : a ≠ ⟨k, 0, E0, [a, b]⟩ := fun h => by
  have h1 := Ex.dp_lt k 0 E0 [a, b] a (by simp)
  rw [← h] at h1
  omega
/-- A term with a number, neither 0 nor two numbers nor a third together: folded no further. -/
theorem add_nf {d : Nat} {a : Ex} (ho : okF (d + 1) false a = true) (h1 : a.k ≠ 1) (hp : prtX a = (a, 0)) (ha : Nf a) (n : Int) : Nf (addX a n) := by
  unfold addX
  split
  · exact ha
  · rename_i hz
    refine nf_two ha (num_nf n) ?_
    unfold foldN
    rw [if_neg (fun h => h1 h.1)]
    unfold mixX
    rw [if_neg (by decide), if_neg (fun h => h1 h.2), if_pos ⟨rfl, rfl⟩]
    unfold sumX
    rw [hp]
    show addX a (0 + wr n) = _
    have e : wr (0 + wr n) = wr n := by unfold wr; omega
    unfold addX numX
    rw [e, if_neg hz]
/-- A folded one's first of two, where the second is a number: it has no number of its own. -/
theorem prt_nf {d : Nat} {b : Ex} {m : Int} (hb : okF (d + 1) false b = true) (hm : 0 ≤ m ∧ m ≤ 65535) (h : Nf ⟨5, 0, E0, [b, ⟨1, m, E0, []⟩]⟩) (hbn : Nf b) : b.k ≠ 1 ∧ prtX b = (b, 0) := by
  unfold Nf at h hbn
  rw [fold_two, fold_leaf, hbn] at h
  unfold foldN at h
  have h1 : b.k ≠ 1 := fun h1 => by
    rw [if_pos ⟨h1, rfl⟩] at h
    simp only [two11, if_true] at h
    unfold numX at h
    injection h with h2
    cases h2
  refine ⟨h1, ?_⟩
  rw [if_neg (fun c => h1 c.1)] at h
  unfold mixX at h
  rw [if_neg (by decide), if_neg (fun c => h1 c.2), if_pos ⟨rfl, rfl⟩] at h
  unfold sumX addX at h
  rcases prt_cases hb with ⟨e, _⟩ | ⟨c, q, hq, rfl, e, hc⟩
  · exact e
  · rw [e] at h
    simp only at h
    split at h
    · exfalso
      have h3 := Ex.dp_lt 5 0 E0 [c, ⟨1, q, E0, []⟩] c (by simp)
      have h4 := Ex.dp_lt 5 0 E0 [⟨5, 0, E0, [c, ⟨1, q, E0, []⟩]⟩, ⟨1, m, E0, []⟩] ⟨5, 0, E0, [c, ⟨1, q, E0, []⟩]⟩ (by simp)
      rw [← h] at h4
      omega
    · exfalso
      injection h with _ _ _ h5
      injection h5 with h6 _
      exact ne_two _ _ _ h6
theorem sum_nf {d : Nat} {a : Ex} (ho : okF (d + 1) false a = true) (h1 : a.k ≠ 1) (ha : Nf a) (hsub : ∀ b m, a = ⟨5, 0, E0, [b, ⟨1, m, E0, []⟩]⟩ → Nf b) (n : Int) : Nf (sumX a n) := by
  unfold sumX
  rcases prt_cases ho with ⟨e, _⟩ | ⟨b, m, hm, rfl, e, hb⟩
  · rw [e]; exact add_nf ho h1 e ha _
  · rw [e]
    obtain ⟨c, rfl⟩ := ok_pos hb
    have hbn := hsub b m rfl
    obtain ⟨q1, q2⟩ := prt_nf hb hm ha hbn
    exact add_nf hb q1 q2 hbn _
end Go.Proofs.YtkolflcjkofleaaDoor

namespace Go.Proofs.YtkolflcjkofleaaDoor
open Go.ChangeShapes Go.WideShapes Go.ChangeAt Go.RowKit
set_option linter.unusedVariables false
set_option linter.unusedSimpArgs false

/-- Folded no further, with all its parts. -/
def Nh : Ex → Prop
  | ⟨k, n, s, l⟩ => Nf ⟨k, n, s, l⟩ ∧ ∀ x ∈ l, Nh x
theorem Nh_eq (e : Ex) : Nh e ↔ (Nf e ∧ ∀ x ∈ e.l, Nh x) := by
  obtain ⟨k, n, s, l⟩ := e
  rw [Nh]
theorem Nh.nf {e : Ex} (h : Nh e) : Nf e := ((Nh_eq e).1 h).1
theorem nh_leaf (k n : Int) (s : ByteArray) : Nh ⟨k, n, s, []⟩ := (Nh_eq _).2 ⟨fold_leaf _ _ _, fun x hx => by cases hx⟩
theorem nh_num (n : Int) : Nh (numX n) := nh_leaf _ _ _
theorem nh_two {k : Int} {a b : Ex} (ha : Nh a) (hb : Nh b) (h : Nf ⟨k, 0, E0, [a, b]⟩) : Nh ⟨k, 0, E0, [a, b]⟩ := (Nh_eq _).2 ⟨h, fun x hx => by
  have hx : x = a ∨ x = b := by simpa using hx
  rcases hx with rfl | rfl
  · exact ha
  · exact hb⟩
theorem add_nh {d : Nat} {a : Ex} (ho : okF (d + 1) false a = true) (h1 : a.k ≠ 1) (hp : prtX a = (a, 0)) (ha : Nh a) (n : Int) : Nh (addX a n) := by
  have h := add_nf ho h1 hp ha.nf n
  unfold addX at h ⊢
  split
  · exact ha
  · rename_i hz
    rw [if_neg hz] at h
    exact nh_two ha (nh_num n) h
theorem sum_nh {d : Nat} {a : Ex} (ho : okF (d + 1) false a = true) (h1 : a.k ≠ 1) (ha : Nh a) (n : Int) : Nh (sumX a n) := by
  unfold sumX
  rcases prt_cases ho with ⟨e, _⟩ | ⟨b, m, hm, rfl, e, hb⟩
  · rw [e]; exact add_nh ho h1 e ha _
  · rw [e]
    obtain ⟨c, rfl⟩ := ok_pos hb
    have hbn : Nh b := ((Nh_eq _).1 ha).2 b (by simp)
    obtain ⟨q1, q2⟩ := prt_nf hb hm ha.nf hbn.nf
    exact add_nh hb q1 q2 hbn _
theorem ok_k1 {d : Nat} {e : Ex} (h : okF (d + 1) false e = true) (h1 : e.k = 1) : ∃ n : Int, (0 ≤ n ∧ n ≤ 65535) ∧ e = ⟨1, n, E0, []⟩ := by
  rcases ok_sev h with ⟨n, hn, rfl⟩ | ⟨s, hs, rfl⟩ | rfl | ⟨n, hn, rfl⟩ | ⟨s, hs, rfl⟩ | ⟨a, ha, rfl⟩ | ⟨k, a, b, hk, ha, hb, rfl⟩
  · exact ⟨n, hn, rfl⟩
  · exact absurd (show (2 : Int) = 1 from h1) (by decide)
  · exact absurd (show (3 : Int) = 1 from h1) (by decide)
  · exact absurd (show (11 : Int) = 1 from h1) (by decide)
  · exact absurd (show (12 : Int) = 1 from h1) (by decide)
  · exact absurd (show (4 : Int) = 1 from h1) (by decide)
  · have : k = 1 := h1
    omega
theorem ok_k11 {d : Nat} {e : Ex} (h : okF (d + 1) false e = true) (h1 : e.k = 11) : ∃ n : Int, (0 ≤ n ∧ n ≤ 9) ∧ e = ⟨11, n, E0, []⟩ := by
  rcases ok_sev h with ⟨n, hn, rfl⟩ | ⟨s, hs, rfl⟩ | rfl | ⟨n, hn, rfl⟩ | ⟨s, hs, rfl⟩ | ⟨a, ha, rfl⟩ | ⟨k, a, b, hk, ha, hb, rfl⟩
  · exact absurd (show (1 : Int) = 11 from h1) (by decide)
  · exact absurd (show (2 : Int) = 11 from h1) (by decide)
  · exact absurd (show (3 : Int) = 11 from h1) (by decide)
  · exact ⟨n, hn, rfl⟩
  · exact absurd (show (12 : Int) = 11 from h1) (by decide)
  · exact absurd (show (4 : Int) = 11 from h1) (by decide)
  · have : k = 11 := h1
    omega
theorem two11_some {k a b : Int} (hk : k = 5 ∨ k = 6) : ∃ n, two11 k a b = some n := by
  rcases hk with rfl | rfl
  · exact ⟨_, rfl⟩
  · exact ⟨_, rfl⟩
/-- What two that are folded make is folded no further. -/
theorem foldN_nh {d : Nat} {k : Int} {a b : Ex} (hk : 5 ≤ k ∧ k ≤ 10) (oa : okF (d + 1) false a = true) (ob : okF (d + 1) false b = true) (ha : Nh a) (hb : Nh b) : Nh (foldN k a b) := by
  by_cases hab : a.k = 1 ∧ b.k = 1
  · cases ht : two11 k a.n b.n with
    | some n =>
      have e : foldN k a b = numX n := by unfold foldN; rw [if_pos hab, ht]
      rw [e]
      exact nh_num n
    | none =>
      have k5 : k ≠ 5 := fun e => by obtain ⟨n, hn⟩ := two11_some (a := a.n) (b := b.n) (k := k) (.inl e); rw [hn] at ht; cases ht
      have k6 : k ≠ 6 := fun e => by obtain ⟨n, hn⟩ := two11_some (a := a.n) (b := b.n) (k := k) (.inr e); rw [hn] at ht; cases ht
      have e : foldN k a b = ⟨k, 0, E0, [a, b]⟩ := by
        unfold foldN
        rw [if_pos hab, ht]
        unfold mixX
        rw [if_neg k6, if_neg (fun h => k5 h.1), if_neg (fun h => k5 h.1)]
      rw [e]
      exact nh_two ha hb (nf_two ha.nf hb.nf e)
  · have e : foldN k a b = mixX k a b := by unfold foldN; rw [if_neg hab]
    rw [e]
    unfold mixX
    split
    · rename_i k6
      subst k6
      unfold subX
      split
      · rename_i hb1
        exact sum_nh oa (fun h => hab ⟨h, hb1⟩) ha _
      · split
        · exact nh_num _
        · rename_i hb1 hs
          refine nh_two ha hb (nf_two ha.nf hb.nf ?_)
          rw [e]
          unfold mixX subX
          rw [if_pos rfl, if_neg hb1, if_neg hs]
    · split
      · rename_i k6 h5
        exact sum_nh ob (fun h => hab ⟨h5.2, h⟩) hb _
      · split
        · rename_i k6 h5 h5b
          exact sum_nh oa (fun h => hab ⟨h, h5b.2⟩) ha _
        · rename_i k6 h5 h5b
          refine nh_two ha hb (nf_two ha.nf hb.nf ?_)
          rw [e]
          unfold mixX
          rw [if_neg k6, if_neg h5, if_neg h5b]
theorem neg_nh {a : Ex} (ha : Nh a) : Nh (negX a) := by
  unfold negX
  split
  · exact nh_num _
  · rename_i h1
    refine (Nh_eq _).2 ⟨?_, fun x hx => ?_⟩
    · unfold Nf
      rw [fold_neg, ha.nf]
      unfold negX
      rw [if_neg h1]
    · have hx : x = a := by simpa using hx
      subst hx
      exact ha
theorem fold_nh : ∀ (d : Nat) (e : Ex), okF d false e = true → Nh (foldX e) := by
  intro d
  induction d with
  | zero => intro e h; rw [okF] at h; cases h
  | succ d ih =>
    intro e h
    rcases ok_sev h with ⟨n, hn, rfl⟩ | ⟨s, hs, rfl⟩ | rfl | ⟨n, hn, rfl⟩ | ⟨s, hs, rfl⟩ | ⟨a, ha, rfl⟩ | ⟨k, a, b, hk, ha, hb, rfl⟩
    · rw [fold_leaf]; exact nh_leaf _ _ _
    · rw [fold_leaf]; exact nh_leaf _ _ _
    · rw [fold_leaf]; exact nh_leaf _ _ _
    · rw [fold_leaf]; exact nh_leaf _ _ _
    · rw [fold_leaf]; exact nh_leaf _ _ _
    · rw [fold_neg]; exact neg_nh (ih a ha)
    · rw [fold_two]
      have oa := fold_ok d a ha
      have ob := fold_ok d b hb
      obtain ⟨c, rfl⟩ := ok_pos ha
      exact foldN_nh hk oa ob (ih a ha) (ih b hb)
/-- Folded twice it is as folded once. -/
theorem fold_twice {d : Nat} {e : Ex} (h : okF d false e = true) : foldX (foldX e) = foldX e := (fold_nh d e h).nf
/-- What a term is worth, by what its parts are worth; S: sections, G: names elsewhere. -/
def worthC (S : Int → Option Int) (G : ByteArray → Option Int) (k n : Int) (s : ByteArray) : List (Option Int) → Option Int
  | [] => if k = 1 then some n else if k = 11 then S n else if k = 12 then G s else none
  | [a] => a.map (fun v => wr (-v))
  | a :: b :: _ => a.bind fun x => b.bind fun y => two11 k x y
def worthX (S : Int → Option Int) (G : ByteArray → Option Int) : Ex → Option Int
  | ⟨k, n, s, l⟩ => worthC S G k n s (l.map (worthX S G))
section
variable {S : Int → Option Int} {G : ByteArray → Option Int}
theorem worth_num (n : Int) (s : ByteArray) : worthX S G ⟨1, n, s, []⟩ = some n := by rw [worthX]; rfl
theorem worth_sect (n : Int) (s : ByteArray) : worthX S G ⟨11, n, s, []⟩ = S n := by rw [worthX]; rfl
theorem worth_glob (n : Int) (s : ByteArray) : worthX S G ⟨12, n, s, []⟩ = G s := by rw [worthX]; rfl
theorem worth_sym (n : Int) (s : ByteArray) : worthX S G ⟨2, n, s, []⟩ = none := by rw [worthX]; rfl
theorem worth_here (n : Int) (s : ByteArray) : worthX S G ⟨3, n, s, []⟩ = none := by rw [worthX]; rfl
theorem worth_neg (k n : Int) (s : ByteArray) (a : Ex) : worthX S G ⟨k, n, s, [a]⟩ = (worthX S G a).map (fun v => wr (-v)) := by rw [worthX]; rfl
theorem worth_two (k n : Int) (s : ByteArray) (a b : Ex) : worthX S G ⟨k, n, s, [a, b]⟩ = (worthX S G a).bind fun x => (worthX S G b).bind fun y => two11 k x y := by rw [worthX]; rfl
theorem bits_w {d s : Int} (hd : 0 ≤ d ∧ d ≤ 65535) (hs : 0 ≤ s ∧ s ≤ 65535) : (0 ≤ bits .and .i64 d s ∧ bits .and .i64 d s ≤ 65535) ∧ (0 ≤ bits .or .i64 d s ∧ bits .or .i64 d s ≤ 65535) := by
  obtain ⟨a, rfl⟩ := Int.eq_ofNat_of_zero_le hd.1
  obtain ⟨b, rfl⟩ := Int.eq_ofNat_of_zero_le hs.1
  have h := bits_nat .i64 16 (by decide) (fun n h0 h1 => by rw [IntKind.wrap_i64]; omega) a b (by omega) (by omega)
  rw [h.1, h.2]
  have h1 : a ||| b < 2 ^ 16 := Nat.or_lt_two_pow (by omega) (by omega)
  have h2 : a &&& b ≤ a := Nat.and_le_left
  omega
theorem two11_in {k a b n : Int} (hk : 5 ≤ k ∧ k ≤ 10) (ha : 0 ≤ a ∧ a ≤ 65535) (hb : 0 ≤ b ∧ b ≤ 65535) (h : two11 k a b = some n) : 0 ≤ n ∧ n ≤ 65535 := by
  unfold two11 at h
  split at h
  · cases h; exact wr_in _
  · split at h
    · cases h; exact wr_in _
    · split at h
      · cases h; exact wr_in _
      · split at h
        · cases h
          exact (bits_w ha hb).1
        · split at h
          · cases h
            exact (bits_w ha hb).2
          · split at h
            · cases h
            · cases h
              have h1 : a / b ≤ a := Int.ediv_le_self _ ha.1
              have h2 : 0 ≤ a / b := Int.ediv_nonneg ha.1 hb.1
              omega
theorem worth_in (hS : ∀ n v, S n = some v → 0 ≤ v ∧ v ≤ 65535) (hG : ∀ s v, G s = some v → 0 ≤ v ∧ v ≤ 65535) : ∀ (d : Nat) (e : Ex) (v : Int), okF d false e = true → worthX S G e = some v → 0 ≤ v ∧ v ≤ 65535 := by
  intro d
  induction d with
  | zero => intro e v h; rw [okF] at h; cases h
  | succ d ih =>
    intro e v h hv
    rcases ok_sev h with ⟨n, hn, rfl⟩ | ⟨s, hs, rfl⟩ | rfl | ⟨n, hn, rfl⟩ | ⟨s, hs, rfl⟩ | ⟨a, ha, rfl⟩ | ⟨k, a, b, hk, ha, hb, rfl⟩
    · rw [worth_num] at hv; cases hv; exact hn
    · rw [worth_sym] at hv; cases hv
    · rw [worth_here] at hv; cases hv
    · rw [worth_sect] at hv; exact hS _ _ hv
    · rw [worth_glob] at hv; exact hG _ _ hv
    · rw [worth_neg] at hv
      obtain ⟨u, _, rfl⟩ := Option.map_eq_some_iff.1 hv
      exact wr_in _
    · rw [worth_two] at hv
      obtain ⟨x, hx, hv⟩ := Option.bind_eq_some_iff.1 hv
      obtain ⟨y, hy, hv⟩ := Option.bind_eq_some_iff.1 hv
      exact two11_in hk (ih a x ha hx) (ih b y hb hy) hv
theorem worth_add {a : Ex} {v : Int} (hv : worthX S G a = some v) (hi : 0 ≤ v ∧ v ≤ 65535) (n : Int) : worthX S G (addX a n) = some (wr (v + n)) := by
  unfold addX
  split
  · rename_i hz
    rw [hv]
    congr 1
    unfold wr at *
    omega
  · rw [worth_two, hv]
    unfold numX
    rw [worth_num]
    show two11 5 v (wr n) = _
    show some (wr (v + wr n)) = _
    congr 1
    unfold wr
    omega
theorem prt_ok {d : Nat} {a : Ex} (h : okF (d + 1) false a = true) : ∃ c, okF (c + 1) false (prtX a).1 = true := by
  rcases prt_cases h with ⟨e, _⟩ | ⟨b, m, hm, rfl, e, hb⟩
  · rw [e]; exact ⟨d, h⟩
  · rw [e]
    obtain ⟨c, rfl⟩ := ok_pos hb
    exact ⟨c, hb⟩
theorem worth_prt (hS : ∀ n v, S n = some v → 0 ≤ v ∧ v ≤ 65535) (hG : ∀ s v, G s = some v → 0 ≤ v ∧ v ≤ 65535) {d : Nat} {a : Ex} {v : Int} (ho : okF (d + 1) false a = true) (hv : worthX S G a = some v) : ∃ u, worthX S G (prtX a).1 = some u ∧ (0 ≤ u ∧ u ≤ 65535) ∧ v = wr (u + (prtX a).2) := by
  have hi := worth_in hS hG (d + 1) a v ho hv
  rcases prt_cases ho with ⟨e, _⟩ | ⟨b, m, hm, rfl, e, hb⟩
  · rw [e]
    exact ⟨v, hv, hi, by unfold wr; simp only; omega⟩
  · rw [e]
    rw [worth_two, worth_num] at hv
    obtain ⟨x, hx, hv⟩ := Option.bind_eq_some_iff.1 hv
    refine ⟨x, hx, worth_in hS hG d b x hb hx, ?_⟩
    have hv : some (wr (x + m)) = some v := hv
    cases hv
    rfl
theorem worth_sum (hS : ∀ n v, S n = some v → 0 ≤ v ∧ v ≤ 65535) (hG : ∀ s v, G s = some v → 0 ≤ v ∧ v ≤ 65535) {d : Nat} {a : Ex} {v : Int} (ho : okF (d + 1) false a = true) (hv : worthX S G a = some v) (n : Int) : worthX S G (sumX a n) = some (wr (v + n)) := by
  obtain ⟨u, hu, hi, rfl⟩ := worth_prt hS hG ho hv
  unfold sumX
  rw [worth_add hu hi]
  congr 1
  unfold wr
  omega
theorem worth_sub (hS : ∀ n v, S n = some v → 0 ≤ v ∧ v ≤ 65535) (hG : ∀ s v, G s = some v → 0 ≤ v ∧ v ≤ 65535) {d : Nat} {a b : Ex} {x y : Int} (oa : okF (d + 1) false a = true) (ob : okF (d + 1) false b = true) (hx : worthX S G a = some x) (hy : worthX S G b = some y) : worthX S G (subX a b) = some (wr (x - y)) := by
  unfold subX
  split
  · rename_i hb1
    obtain ⟨m, hm, rfl⟩ := ok_k1 ob hb1
    rw [worth_num] at hy
    cases hy
    rw [worth_sum hS hG oa hx]
    rfl
  · split
    · rename_i hs
      obtain ⟨u, hu, _, rfl⟩ := worth_prt hS hG oa hx
      obtain ⟨q, hq, _, rfl⟩ := worth_prt hS hG ob hy
      obtain ⟨c, oc⟩ := prt_ok oa
      obtain ⟨c', oc'⟩ := prt_ok ob
      obtain ⟨n, _, en⟩ := ok_k11 oc hs.1
      obtain ⟨n', _, en'⟩ := ok_k11 oc' hs.2.1
      have hnn := hs.2.2
      rw [en, en'] at hnn
      have hnn : n = n' := hnn
      subst hnn
      rw [en, worth_sect] at hu
      rw [en', worth_sect, hu] at hq
      cases hq
      unfold numX
      rw [worth_num]
      congr 1
      unfold wr
      omega
    · rw [worth_two, hx, hy]
      rfl
theorem worth_foldN (hS : ∀ n v, S n = some v → 0 ≤ v ∧ v ≤ 65535) (hG : ∀ s v, G s = some v → 0 ≤ v ∧ v ≤ 65535) {d : Nat} {k v : Int} {a b : Ex} {x y : Int} (hk : 5 ≤ k ∧ k ≤ 10) (oa : okF (d + 1) false a = true) (ob : okF (d + 1) false b = true) (hx : worthX S G a = some x) (hy : worthX S G b = some y) (ht : two11 k x y = some v) : worthX S G (foldN k a b) = some v := by
  have ix := worth_in hS hG _ a x oa hx
  have iy := worth_in hS hG _ b y ob hy
  have mix : worthX S G (mixX k a b) = some v := by
    unfold mixX
    split
    · rename_i h6
      subst h6
      rw [worth_sub hS hG oa ob hx hy]
      exact ht
    · split
      · rename_i h5
        obtain ⟨rfl, ha1⟩ := h5
        obtain ⟨m, hm, rfl⟩ := ok_k1 oa ha1
        rw [worth_num] at hx
        cases hx
        rw [worth_sum hS hG ob hy]
        rw [← ht]
        show some (wr (y + x)) = some (wr (x + y))
        rw [Int.add_comm]
      · split
        · rename_i h5
          obtain ⟨rfl, hb1⟩ := h5
          obtain ⟨m, hm, rfl⟩ := ok_k1 ob hb1
          rw [worth_num] at hy
          cases hy
          rw [worth_sum hS hG oa hx]
          exact ht
        · rw [worth_two, hx, hy]
          exact ht
  unfold foldN
  split
  · rename_i hab
    obtain ⟨m, hm, rfl⟩ := ok_k1 oa hab.1
    obtain ⟨m', hm', rfl⟩ := ok_k1 ob hab.2
    rw [worth_num] at hx hy
    cases hx
    cases hy
    simp only [ht]
    unfold numX
    rw [worth_num, wr_of (two11_in hk hm hm' ht)]
  · exact mix
/-- What is folded is worth the same. -/
theorem fold_worth (hS : ∀ n v, S n = some v → 0 ≤ v ∧ v ≤ 65535) (hG : ∀ s v, G s = some v → 0 ≤ v ∧ v ≤ 65535) : ∀ (d : Nat) (e : Ex) (v : Int), okF d false e = true → worthX S G e = some v → worthX S G (foldX e) = some v := by
  intro d
  induction d with
  | zero => intro e v h; rw [okF] at h; cases h
  | succ d ih =>
    intro e v h hv
    rcases ok_sev h with ⟨n, hn, rfl⟩ | ⟨s, hs, rfl⟩ | rfl | ⟨n, hn, rfl⟩ | ⟨s, hs, rfl⟩ | ⟨a, ha, rfl⟩ | ⟨k, a, b, hk, ha, hb, rfl⟩
    · rw [fold_leaf]; exact hv
    · rw [fold_leaf]; exact hv
    · rw [fold_leaf]; exact hv
    · rw [fold_leaf]; exact hv
    · rw [fold_leaf]; exact hv
    · rw [worth_neg] at hv
      obtain ⟨u, hu, rfl⟩ := Option.map_eq_some_iff.1 hv
      have hu2 := ih a u ha hu
      have oa := fold_ok d a ha
      obtain ⟨c, rfl⟩ := ok_pos ha
      rw [fold_neg]
      unfold negX
      split
      · rename_i h1
        obtain ⟨m, hm, em⟩ := ok_k1 oa h1
        rw [em, worth_num] at hu2
        cases hu2
        rw [em]
        unfold numX
        rw [worth_num]
      · rw [worth_neg, hu2]
        rfl
    · rw [worth_two] at hv
      obtain ⟨x, hx, hv⟩ := Option.bind_eq_some_iff.1 hv
      obtain ⟨y, hy, hv⟩ := Option.bind_eq_some_iff.1 hv
      have oa := fold_ok d a ha
      have ob := fold_ok d b hb
      have ix := ih a x ha hx
      have iy := ih b y hb hy
      obtain ⟨c, rfl⟩ := ok_pos ha
      rw [fold_two]
      exact worth_foldN hS hG hk oa ob ix iy hv
end
end Go.Proofs.YtkolflcjkofleaaDoor

namespace Go.Proofs.YtkolflcjkofleaaDoor
open Go.ChangeShapes Go.WideShapes Go.ChangeAt Go.RowKit
set_option linter.unusedVariables false
set_option maxRecDepth 8000
set_option linter.unusedSimpArgs false

/-- The cursor, while draws go on that began at w. -/
structure Dz (w wr : World) (cb : Nat) (a : Option Addr) (len cap : Nat) (xs : List UInt8) : Prop where
  cur : Cur wr cb a len cap xs
  gr : w.grownBy wr (some cb)
  lt : cb < w.heap.size
  cd : xs = [] ∨ ∀ ad, a = some ad → ad.block < w.heap.size
section
variable {w wr w' : World} {cb : Nat} {a : Option Addr} {len cap : Nat} {xs : List UInt8}
theorem dz_new (hc : Cur w cb a len cap xs) : Dz w w cb a len cap xs := ⟨hc, grownBy_below (Below.refl _ _), hc.lt, hc.code⟩
theorem Dz.size (h : Dz w wr cb a len cap xs) : w.heap.size ≤ wr.heap.size := h.gr.size
theorem Dz.draw (h : Dz w wr cb a len cap xs) (hc : Cur w' cb a len cap xs) (hg : wr.grownBy w' (some cb)) : Dz w w' cb a len cap xs := ⟨hc, grownBy_trans h.gr hg, h.lt, h.cd⟩
theorem Dz.later (h : Dz w wr cb a len cap xs) (hb : Below wr.heap.size wr w') : Dz w w' cb a len cap xs := h.draw (h.cur.later hb) (grownBy_below hb)
theorem Dz.own {row : Option Nat} (h : Dz w wr cb a len cap xs) (hg : wr.grownBy w' row) (hr : ∀ g, row = some g → w.heap.size ≤ g) : Dz w w' cb a len cap xs := ⟨h.cur.past hg h.lt h.cd hr, grownBy_own h.gr hg hr, h.lt, h.cd⟩
theorem grownBy_row {W : World} {g : Nat} (cs : Array Value) : W.grownBy (W.setRow g cs) (some g) := ⟨rfl, rfl, rfl, by simp [World.setRow], fun k _ hk => setRow_other _ _ _ _ (fun e => hk (by rw [e]))⟩
theorem Dz.row (h : Dz w wr cb a len cap xs) (cs : Array Value) : Dz w (wr.setRow w.heap.size cs) cb a len cap xs := h.own (grownBy_row cs) (fun g e => by cases e; exact Nat.le_refl _)
/-- A block of the call's own stays while draws go on. -/
theorem Dz.blk {W : World} {g : Nat} {o : Obj} (h : Dz w wr cb a len cap xs) (hg : wr.grownBy W (some cb)) (hb : wr.heap[g]? = some o) (hge : w.heap.size ≤ g) : W.heap[g]? = some o :=
  (hg.block g (Array.getElem?_eq_some_iff.1 hb).1 (fun e => by have := h.lt; simp at e; omega)).trans hb
end
theorem lit_cell (L : List ByteArray) (W : World) (j : Nat) (h : j < L.length) : (W.alloc (.cells (L.map Value.string).toArray 9)).cell? ⟨W.heap.size, j, none⟩ = some (.string (L.getD j E0)) := by
  rw [World.cell?_alloc_at _ _ _ _ rfl, List.getElem?_toArray, List.getElem?_map, List.getElem?_eq_getElem h, List.getD_eq_getElem?_getD, List.getElem?_eq_getElem h]
  rfl
set_option maxHeartbeats 400000 in
theorem strD (L : List ByteArray) (n : Nat) (cb : Nat) (a : Option Addr) (len cap : Nat) (xs : List UInt8) (w0 : World) (hn : L.length = n) (h0 : 0 < n) (hm : n ≤ 1000) (hc : Cur w0 cb a len cap xs) :
    Calls Tryd.prog 66 #[.pointer (some ⟨cb, 0, none⟩), .slice (some ⟨w0.heap.size, 0, none⟩) n n] (w0.alloc (.cells (L.map Value.string).toArray 9)) fun e w' => ∃ j, j < n ∧ e = .returned (.string (L.getD j E0)) ∧ Cur w' cb a len cap xs ∧ w0.grownBy w' (some cb) := by
  have hlt := hc.lt
  have HC := hide (hc.later ((Below.refl _ _).alloc (Nat.le_refl _) (.cells (L.map Value.string).toArray 9)))
  have HT := hide (fun j (hj : j < n) => lit_cell L w0 j (by omega))
  have HZ : w0.heap.size < (w0.alloc (.cells (L.map Value.string).toArray 9)).heap.size := by simp
  have HG := hide (World.grownBy_alloc w0 (.cells (L.map Value.string).toArray 9) (some cb))
  clear hc
  generalize w0.alloc (.cells (L.map Value.string).toArray 9) = w at *
  go_enter Tryd.func66, Tryd.ntmps66
  go_wp2_with fail
  refine (below_any cb a len cap xs n w (by omega) (unhide HC)).mono ?_
  rintro e w1 ⟨x, hx0, hx1, rfl, hc1, hg1⟩
  obtain ⟨hx2, hx3⟩ := hx0 (by omega)
  obtain ⟨j, rfl⟩ := Int.eq_ofNat_of_zero_le hx2
  have hj : j < n := by omega
  have hcx : w1.cell? ⟨w0.heap.size, j, none⟩ = some (.string (L.getD j E0)) := (World.cell?_of_block (w := w) (hg1.block w0.heap.size HZ (by simp; omega))).trans (unhide HT j hj)
  obtain ⟨s, hs⟩ : ∃ s, L.getD j E0 = s := ⟨_, rfl⟩
  have HS := hide hs
  rw [hs] at hcx
  clear hx0 hx1 hs HT
  go_wp2
  go_ret
  exact ⟨j, hj, by rw [unhide HS]; rfl, hc1, grownBy_trans (unhide HG) hg1⟩
set_option maxHeartbeats 400000 in
theorem wordD (cb : Nat) (a : Option Addr) (len cap : Nat) (xs : List UInt8) (w : World) (hc : Cur w cb a len cap xs) :
    Calls Tryd.prog 60 #[.pointer (some ⟨cb, 0, none⟩)] w fun e w' => ∃ x : Int, 0 ≤ x ∧ x ≤ 65535 ∧ e = .returned (.int .i64 x) ∧ Cur w' cb a len cap xs ∧ w.grownBy w' (some cb) := by
  have D0 := hide (dz_new hc)
  go_enter Tryd.func60, Tryd.ntmps60
  go_wp2_with fail
  refine (below_any cb a len cap xs 65536 w (by omega) hc).mono ?_
  rintro e w1 ⟨x, hx0, hx1, rfl, hc1, hg1⟩
  obtain ⟨hx2, hx3⟩ := hx0 (by omega)
  have D1 := hide ((unhide D0).draw hc1 hg1)
  have hlt := hc1.lt
  have I1 := hide (int_any cb a len cap xs (some ⟨w1.heap.size, 0, none⟩) 11 11 [0, 1, 2, 3, 5, 8, 255, 32767, 32768, 65535, x] (w1.alloc (.cells ([0, 1, 2, 3, 5, 8, 255, 32767, 32768, 65535, x].map (Value.int .i64)).toArray 3)) (hc1.later ((Below.refl _ _).alloc (Nat.le_refl _) _)) (RdN_lit w1 _) (fun ad e => by cases e; show w1.heap.size ≠ cb; omega) rfl (by omega) (by omega))
  have G1 := hide (World.grownBy_alloc w1 (.cells ([0, 1, 2, 3, 5, 8, 255, 32767, 32768, 65535, x].map (Value.int .i64)).toArray 3) (some cb))
  have BD := hide (show ∀ j, j < 11 → 0 ≤ nAt [0, 1, 2, 3, 5, 8, 255, 32767, 32768, 65535, x] j ∧ nAt [0, 1, 2, 3, 5, 8, 255, 32767, 32768, 65535, x] j ≤ 65535 from fun j hj => by
    have hk : j = 0 ∨ j = 1 ∨ j = 2 ∨ j = 3 ∨ j = 4 ∨ j = 5 ∨ j = 6 ∨ j = 7 ∨ j = 8 ∨ j = 9 ∨ j = 10 := by omega
    rcases hk with rfl | rfl | rfl | rfl | rfl | rfl | rfl | rfl | rfl | rfl | rfl <;> simp [nAt] <;> omega)
  clear hc1 hg1 hx0 hx1 D0
  go_wp2_with fail
  refine (unhide I1).mono ?_
  rintro e w2 ⟨j, hj, rfl, hc2, hg2⟩
  have D2 := hide ((unhide D1).draw hc2 (grownBy_trans (unhide G1) hg2))
  obtain ⟨b0, b1⟩ := unhide BD j hj
  generalize nAt [0, 1, 2, 3, 5, 8, 255, 32767, 32768, 65535, x] j = y at *
  clear hc2 hg2 I1 G1 BD D1
  go_wp2
  go_ret
  exact ⟨y, b0, b1, rfl, (unhide D2).cur, (unhide D2).gr⟩
def L9a : List ByteArray := [⟨#[97]⟩, ⟨#[115, 116, 97, 114, 116]⟩, ⟨#[120, 49]⟩, ⟨#[114, 54]⟩]
def L9b : List ByteArray := [⟨#[46, 119, 111, 114, 100]⟩, ⟨#[46, 109, 97, 99, 114, 111]⟩, ⟨#[46, 120]⟩]
def L9c : List ByteArray := [⟨#[109, 111, 118]⟩, ⟨#[114, 48]⟩, ⟨#[104, 97, 108, 116]⟩]
def L9d : List ByteArray := [⟨#[58]⟩, ⟨#[44]⟩, ⟨#[40]⟩, ⟨#[41]⟩, ⟨#[46]⟩, ⟨#[60]⟩, ⟨#[64]⟩]
theorem ok9a : ∀ j : Fin 4, (Tk.mk 1 0 (L9a.getD j.val E0)).ok = true := by decide +kernel
theorem ok9b : ∀ j : Fin 3, (Tk.mk 3 0 (L9b.getD j.val E0)).ok = true := by decide +kernel
theorem ok9c : ∀ j : Fin 3, (Tk.mk 5 0 (L9c.getD j.val E0)).ok = true := by decide +kernel
theorem ok9d : ∀ j : Fin 7, (Tk.mk 4 0 (L9d.getD j.val E0)).ok = true := by decide +kernel
theorem ok9n (x : Int) (h0 : 0 ≤ x) (h1 : x ≤ 65535) : (Tk.mk 2 x ⟨#[]⟩).ok = true := by
  unfold Tk.ok
  simp only
  rw [if_pos (by decide), inB_t _ _ _ h0 h1]
  rfl
end Go.Proofs.YtkolflcjkofleaaDoor
