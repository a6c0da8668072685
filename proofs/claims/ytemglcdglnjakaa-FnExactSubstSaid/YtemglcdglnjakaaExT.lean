/- Terms as data; what a list of terms in memory reads as, all of it from a block on; what keeps it; conditions stand as hypotheses of each. -/
import Derived.Test.YtemglcdglnjakaaTkA
namespace Go.Proofs.Ytemglcdglnjakaa
open Go.ChangeShapes Go.WideShapes Go.ChangeAt Go.RowKit
set_option linter.unusedVariables false
set_option maxRecDepth 8000

/-- A term. -/
structure Ex where
  k : Int
  n : Int
  s : ByteArray
  l : List Ex
theorem Ex.ind {p : Ex → Prop} (h : ∀ k n s l, (∀ e ∈ l, p e) → p ⟨k, n, s, l⟩) (e : Ex) : p e := by
  obtain ⟨k, n, s, l⟩ := e
  exact h k n s l (fun e he => Ex.ind h e)
/-- How much a term holds. -/
def Ex.sz : Ex → Nat
  | ⟨_, _, s, l⟩ => s.size + l.length + (l.map Ex.sz).sum
theorem Ex.sz_eq (k n : Int) (s : ByteArray) (l : List Ex) : (Ex.mk k n s l).sz = s.size + l.length + (l.map Ex.sz).sum := by rw [Ex.sz]
/-- How deep a term is. -/
def Ex.dp : Ex → Nat
  | ⟨_, _, _, l⟩ => 1 + (l.map Ex.dp).foldr max 0
theorem Ex.dp_lt (k n : Int) (s : ByteArray) (l : List Ex) (e : Ex) (h : e ∈ l) : e.dp < (Ex.mk k n s l).dp := by
  rw [Ex.dp]
  have : ∀ l : List Ex, e ∈ l → e.dp ≤ (l.map Ex.dp).foldr max 0 := by
    intro l
    induction l with
    | nil => intro h; cases h
    | cons a l ih =>
      intro h
      rw [List.map_cons, List.foldr_cons]
      rcases List.mem_cons.1 h with rfl | h
      · exact Nat.le_max_left _ _
      · exact Nat.le_trans (ih h) (Nat.le_max_right _ _)
  have := this l h
  omega
def X0 : Ex := ⟨0, 0, ⟨#[]⟩, []⟩
def xAt (l : List Ex) (i : Nat) : Ex := l.getD i X0
/-- The parts of a term lie at a: every block of them from B on. -/
def RdX (w : World) (B : Nat) : Ex → Option Addr → Prop
  | ⟨_, _, _, l⟩, a => l = [] ∨ ∃ b off, a = some ⟨b, off, none⟩ ∧ B ≤ b ∧ b < w.heap.size ∧ ∀ x ∈ l, ∀ i, l[i]? = some x → w.cell? ⟨b, off + i * 4, none⟩ = some (.int .i64 x.k) ∧ w.cell? ⟨b, off + i * 4 + 1, none⟩ = some (.int .i64 x.n) ∧ w.cell? ⟨b, off + i * 4 + 2, none⟩ = some (.string x.s) ∧ ∃ c cap, w.cell? ⟨b, off + i * 4 + 3, none⟩ = some (.slice c x.l.length cap) ∧ RdX w B x c
/-- One part, as it lies. -/
def OneX (w : World) (B b at_ : Nat) (x : Ex) : Prop := w.cell? ⟨b, at_, none⟩ = some (.int .i64 x.k) ∧ w.cell? ⟨b, at_ + 1, none⟩ = some (.int .i64 x.n) ∧ w.cell? ⟨b, at_ + 2, none⟩ = some (.string x.s) ∧ ∃ c cap, w.cell? ⟨b, at_ + 3, none⟩ = some (.slice c x.l.length cap) ∧ RdX w B x c
theorem xAt_get {l : List Ex} {i : Nat} (h : i < l.length) : xAt l i = l[i] := by
  unfold xAt
  rw [List.getD_eq_getElem?_getD, List.getElem?_eq_getElem h]
  rfl
theorem xAt_mem {l : List Ex} {i : Nat} (h : i < l.length) : xAt l i ∈ l := by rw [xAt_get h]; exact List.getElem_mem _
theorem RdX_eq (w : World) (B : Nat) (e : Ex) (a : Option Addr) : RdX w B e a ↔ (e.l = [] ∨ ∃ b off, a = some ⟨b, off, none⟩ ∧ B ≤ b ∧ b < w.heap.size ∧ ∀ i, i < e.l.length → OneX w B b (off + i * 4) (xAt e.l i)) := by
  obtain ⟨k, n, s, l⟩ := e
  rw [RdX]
  refine or_congr Iff.rfl (exists_congr fun b => exists_congr fun off => and_congr Iff.rfl (and_congr Iff.rfl (and_congr Iff.rfl ⟨fun h i hi => ?_, fun h x hx i hi => ?_⟩)))
  · exact h _ (xAt_mem hi) i (by rw [xAt_get hi]; exact List.getElem?_eq_getElem hi)
  · obtain ⟨hl, e⟩ := List.getElem?_eq_some_iff.1 hi
    have := h i hl
    rw [xAt_get hl, e] at this
    exact this
/-- What is kept of the blocks from B on keeps what is read there. -/
theorem RdX.keep {w w' : World} {B : Nat} (hs : w.heap.size ≤ w'.heap.size) (hc : ∀ b o v, B ≤ b → b < w.heap.size → w.cell? ⟨b, o, none⟩ = some v → w'.cell? ⟨b, o, none⟩ = some v) (e : Ex) : ∀ a, RdX w B e a → RdX w' B e a := by
  induction e using Ex.ind with
  | h k n s l ih =>
    intro a h
    rw [RdX_eq] at h ⊢
    rcases h with h | ⟨b, off, ha, h1, h2, h3⟩
    · exact .inl h
    · refine .inr ⟨b, off, ha, h1, Nat.lt_of_lt_of_le h2 hs, fun i hi => ?_⟩
      obtain ⟨c1, c2, c3, c, cap, c4, c5⟩ := h3 i hi
      exact ⟨hc _ _ _ h1 h2 c1, hc _ _ _ h1 h2 c2, hc _ _ _ h1 h2 c3, c, cap, hc _ _ _ h1 h2 c4, ih _ (xAt_mem hi) _ c5⟩
theorem RdX.later {w w' : World} {B : Nat} {e : Ex} {a : Option Addr} (h : RdX w B e a) (hb : Below w.heap.size w w') : RdX w' B e a :=
  RdX.keep hb.size (fun b o v _ hlt hc => (hb.cell (p := ⟨b, o, none⟩) hlt).trans hc) e a h
theorem RdX.lower {w : World} {B C : Nat} (hC : C ≤ B) (e : Ex) : ∀ a, RdX w B e a → RdX w C e a := by
  induction e using Ex.ind with
  | h k n s l ih =>
    intro a h
    rw [RdX_eq] at h ⊢
    rcases h with h | ⟨b, off, ha, h1, h2, h3⟩
    · exact .inl h
    · refine .inr ⟨b, off, ha, Nat.le_trans hC h1, h2, fun i hi => ?_⟩
      obtain ⟨c1, c2, c3, c, cap, c4, c5⟩ := h3 i hi
      exact ⟨c1, c2, c3, c, cap, c4, ih _ (xAt_mem hi) _ c5⟩
/-- What all parts hold. -/
def szX (l : List Ex) : Nat := (l.map Ex.sz).sum
theorem szX_take (l : List Ex) (k : Nat) (h : k < l.length) : szX (l.take (k + 1)) = szX (l.take k) + (xAt l k).sz := by
  unfold szX
  rw [List.take_succ_eq_append_getElem h, List.map_append, List.sum_append, xAt_get h]
  simp
theorem szX_le (l : List Ex) (k : Nat) : szX (l.take k) ≤ szX l := by
  induction l generalizing k with
  | nil => simp [szX]
  | cons a r ih =>
    cases k with
    | zero => simp [szX]
    | succ k =>
      have := ih k
      unfold szX at this ⊢
      simp only [List.take_succ_cons, List.map_cons, List.sum_cons]
      omega
theorem sz_is (e : Ex) : e.sz = e.s.size + e.l.length + szX e.l := by obtain ⟨k, n, s, l⟩ := e; exact Ex.sz_eq k n s l
/-- Every text and list within can be counted. -/
def Fit : Ex → Prop
  | ⟨_, _, s, l⟩ => s.size ≤ 9223372036854775807 ∧ l.length ≤ 9223372036854775807 ∧ ∀ x ∈ l, Fit x
theorem Fit_eq (e : Ex) : Fit e ↔ (e.s.size ≤ 9223372036854775807 ∧ e.l.length ≤ 9223372036854775807 ∧ ∀ i, i < e.l.length → Fit (xAt e.l i)) := by
  obtain ⟨k, n, s, l⟩ := e
  rw [Fit]
  refine and_congr Iff.rfl (and_congr Iff.rfl ⟨fun h i hi => h _ (xAt_mem hi), fun h x hx => ?_⟩)
  obtain ⟨i, hi, rfl⟩ := List.getElem_of_mem hx
  have := h i hi
  rw [xAt_get hi] at this
  exact this
end Go.Proofs.Ytemglcdglnjakaa
