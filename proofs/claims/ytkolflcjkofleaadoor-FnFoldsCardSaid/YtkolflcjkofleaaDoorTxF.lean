/- Contracts over this seat's translation, laid together; conditions stand as hypotheses of each. -/
import Derived.Test.YtkolflcjkofleaaDoorTxA
import Derived.Test.YtkolflcjkofleaaDoorTxC
import Derived.Test.YtkolflcjkofleaaDoorTxD
import Derived.Test.YtkolflcjkofleaaDoorTxE
import Derived.Laws.AppendOwn
import Derived.Deep.Slices
import Derived.LaidEqlPtr
import Derived.Laws.StructEq
import Derived.MapKept
import Derived.Carry
import Derived.Deep.RegionHeld

namespace Go.Proofs.YtkolflcjkofleaaDoor
open Go.ChangeShapes Go.WideShapes Go.ChangeAt Go.RowKit
set_option linter.unusedVariables false
set_option maxRecDepth 8000
set_option linter.unusedSimpArgs false

/-- No more of them than there are. -/
theorem nodup_le : ∀ (l F : List Nat), l.Nodup → (∀ x ∈ l, x ∈ F) → l.length ≤ F.length
  | [], F, _, _ => Nat.zero_le _
  | a :: l, F, hn, hs => by
    rw [List.nodup_cons] at hn
    have ha : a ∈ F := hs a List.mem_cons_self
    have h1 := nodup_le l (F.erase a) hn.2 (fun x hx => by
      have hxa : x ≠ a := fun e => hn.1 (e ▸ hx)
      exact (List.mem_erase_of_ne hxa).2 (hs x (List.mem_cons_of_mem _ hx)))
    rw [List.length_erase_of_mem ha] at h1
    have : 0 < F.length := List.length_pos_of_mem ha
    simp only [List.length_cons]
    omega
theorem flat_len : ∀ (l : List Ex) (Fs : List (List Nat)), Fs.length = l.length → (∀ i, i < l.length → (Fs.getD i []).length ≤ 1 + (xAt l i).sz) → Fs.flatten.length ≤ l.length + szX l
  | [], Fs, hl, _ => by
    have : Fs = [] := List.eq_nil_of_length_eq_zero hl
    subst this
    simp [szX]
  | x :: l, [], hl, _ => by simp at hl
  | x :: l, F :: Fs, hl, h => by
    have h0 := h 0 (by simp)
    have h1 := flat_len l Fs (by simpa using hl) (fun i hi => by
      have := h (i + 1) (by simp; omega)
      simpa [xAt] using this)
    have h0' : F.length ≤ 1 + x.sz := by simpa [xAt] using h0
    have e1 : szX (x :: l) = x.sz + szX l := by simp [szX]
    simp only [List.flatten_cons, List.length_append, List.length_cons] at h1 ⊢
    omega
/-- A term has no more blocks than it is large. -/
theorem OwX.len {w : World} (e : Ex) : ∀ a F, OwX w e a F → F.length ≤ 1 + e.sz := by
  induction e using Ex.ind with
  | h k n s l ih =>
    intro a F h
    rw [OwX_eq] at h
    rcases h with ⟨_, rfl⟩ | ⟨b, cs, t, Fs, ha, hh, hz, hF, rfl, h3⟩
    · simp
    · have h1 := flat_len l Fs hF (fun i hi => by
        obtain ⟨_, _, _, c, cap, _, c5⟩ := h3 i hi
        exact ih _ (xAt_mem hi) _ _ c5)
      rw [sz_is]
      simp only [List.length_cons]
      omega
/-- A block that is a row of cells, not frozen. -/
def Cln (w : World) (b : Nat) : Prop := ∃ cs t, w.heap[b]? = some (.cells cs t (0, 0))
theorem Cln.later {w w' : World} {b : Nat} (h : Cln w b) (hb : Below w.heap.size w w') : Cln w' b := by obtain ⟨cs, t, h⟩ := h; exact ⟨cs, t, row_keep h hb⟩
theorem OwX.cln {w : World} (e : Ex) : ∀ a F, OwX w e a F → ∀ b ∈ F, Cln w b := by
  induction e using Ex.ind with
  | h k n s l ih =>
    intro a F h
    rw [OwX_eq] at h
    rcases h with ⟨_, rfl⟩ | ⟨b, cs, t, Fs, ha, hh, hz, hF, rfl, h3⟩
    · intro b hb; cases hb
    · intro x hx
      rcases List.mem_cons.1 hx with rfl | hx
      · exact ⟨cs, t, hh⟩
      · obtain ⟨G, hG, hx⟩ := List.mem_flatten.1 hx
        obtain ⟨i, hi, rfl⟩ := List.getElem_of_mem hG
        have hi2 : i < l.length := hF ▸ hi
        obtain ⟨c1, c2, c3, c, cap, c4, c5⟩ := h3 i hi2
        rw [List.getD_eq_getElem?_getD, List.getElem?_eq_getElem hi] at c5
        exact ih _ (xAt_mem hi2) _ _ c5 _ hx
/-- Lists laid together, each with no two the same, no two with the same. -/
theorem flat_nodup (T : Nat → List Nat) : ∀ n : Nat, (∀ i, i < n → (T i).Nodup) → (∀ i j, i < n → j < n → i ≠ j → ∀ x ∈ T i, x ∉ T j) → ((List.range n).map T).flatten.Nodup
  | 0, _, _ => by simp
  | n + 1, h1, h2 => by
    rw [List.range_succ, List.map_append, List.flatten_append]
    refine List.nodup_append.2 ⟨flat_nodup T n (fun i hi => h1 i (by omega)) (fun i j hi hj => h2 i j (by omega) (by omega)), ?_, fun a ha b hb e => ?_⟩
    · simpa using h1 n (by omega)
    · subst e
      have hb : a ∈ T n := by simpa using hb
      obtain ⟨G, hG, hx⟩ := List.mem_flatten.1 ha
      obtain ⟨i, hi, rfl⟩ := List.mem_map.1 hG
      have hi := List.mem_range.1 hi
      exact h2 i n (by omega) (by omega) (by omega) a hx hb
/-- A list that was copied: where it lies, how much it holds, what, and whose parts they are. -/
structure Ls where
  g : Nat
  c : Nat
  l : List Ex
  p : Nat
  q : Nat
def Ls.v (z : Ls) : Value := .slice (some ⟨z.g, 0, none⟩) z.l.length z.c
def lsA (ls : List Ls) (j : Nat) : Ls := ls.getD j ⟨0, 0, [], 0, 0⟩
theorem lsA_old {ls : List Ls} {z : Ls} {j : Nat} (h : j < ls.length) : lsA (ls ++ [z]) j = lsA ls j := by
  unfold lsA
  rw [List.getD_eq_getElem?_getD, List.getD_eq_getElem?_getD, List.getElem?_append_left h]
theorem lsA_new {ls : List Ls} {z : Ls} : lsA (ls ++ [z]) ls.length = z := by
  unfold lsA
  rw [List.getD_eq_getElem?_getD]
  simp
/-- Whose list it is, so many steps up. -/
def upL (ls : List Ls) : Nat → Nat → Nat
  | 0, m => m
  | t + 1, m => upL ls t (lsA ls m).p
theorem upL_le {ls : List Ls} (hp : ∀ m, m < ls.length → (lsA ls m).p ≤ m) : ∀ t m, m < ls.length → upL ls t m ≤ m
  | 0, m, _ => Nat.le_refl _
  | t + 1, m, h => by
    have h1 := hp m h
    exact Nat.le_trans (upL_le hp t _ (by omega)) h1
theorem upL_add (ls : List Ls) : ∀ s t m, upL ls (s + t) m = upL ls t (upL ls s m)
  | 0, t, m => by rw [Nat.zero_add]; rfl
  | s + 1, t, m => by rw [Nat.succ_add]; exact upL_add ls s t _
/-- Two lists of parts of one list have nothing in common. -/
theorem upL_apart {ls : List Ls} (hp : ∀ m, m < ls.length → (lsA ls m).p ≤ m) {a b j m s t : Nat} (ha : a < ls.length) (hb : b < ls.length) (pa : (lsA ls a).p = j) (pb : (lsA ls b).p = j) (ja : j < a) (jb : j < b) (hs : upL ls s m = a) (ht : upL ls t m = b) : a = b := by
  have main : ∀ {a b s t : Nat}, a < ls.length → (lsA ls a).p = j → j < b → upL ls s m = a → upL ls t m = b → s ≤ t → a = b := by
    intro a b s t ha pa jb hs ht hst
    obtain ⟨r, rfl⟩ := Nat.le.dest hst
    rw [upL_add, hs] at ht
    cases r with
    | zero => exact ht
    | succ r =>
      have h1 : upL ls r j = b := by rw [← pa]; exact ht
      have h2 := upL_le hp r j (by have := hp a ha; omega)
      omega
  rcases Nat.le_total s t with h | h
  · exact main ha pa jb hs ht h
  · exact (main hb pb ja ht hs h).symm
end Go.Proofs.YtkolflcjkofleaaDoor

namespace Go.Proofs.YtkolflcjkofleaaDoor
open Go.ChangeShapes Go.WideShapes Go.ChangeAt Go.RowKit
set_option linter.unusedVariables false
set_option maxRecDepth 8000
set_option linter.unusedSimpArgs false

/-- A list met, by where it begins, how long it is, and the number of its copy. -/
structure Kz where
  a : Nat
  n : Nat
  v : Nat
/-- Whether a part has been copied: those of the first A lists, and the first I of the list A. -/
def dnC (A I j i : Nat) : Prop := j < A ∨ (j = A ∧ i < I)
/-- A part as it lies. -/
def Cel (w0 wr : World) (F0 : List Nat) (ls : List Ls) (A I : Nat) (F : List Nat) (j i : Nat) : Prop :=
  wr.cell? ⟨(lsA ls j).g, i * 4, none⟩ = some (.int .i64 (xAt (lsA ls j).l i).k) ∧ wr.cell? ⟨(lsA ls j).g, i * 4 + 1, none⟩ = some (.int .i64 (xAt (lsA ls j).l i).n) ∧ wr.cell? ⟨(lsA ls j).g, i * 4 + 2, none⟩ = some (.string (xAt (lsA ls j).l i).s) ∧ ∃ sv, wr.cell? ⟨(lsA ls j).g, i * 4 + 3, none⟩ = some sv ∧
    (dnC A I j i → ((xAt (lsA ls j).l i).l = [] ∧ sv = .slice none 0 0) ∨ ∃ m, j < m ∧ m < ls.length ∧ (lsA ls m).p = j ∧ (lsA ls m).q = i ∧ (lsA ls m).l = (xAt (lsA ls j).l i).l ∧ sv = (lsA ls m).v) ∧
    (¬ dnC A I j i → ∃ c cp, sv = .slice c (xAt (lsA ls j).l i).l.length cp ∧ OwX w0 (xAt (lsA ls j).l i) c F ∧ F.Nodup ∧ ∀ b ∈ F, b ∈ F0)
structure Cq (w0 wr : World) (F0 : List Nat) (e : Ex) (v : Value) (ls : List Ls) (A I : Nat) (FF : Nat → Nat → List Nat) (kz : List Kz) : Prop where
  bel : Below w0.heap.size w0 wr
  lt : w0.heap.size + 5 ≤ wr.heap.size
  own : wr.ownsRow (w0.heap.size + 2) 24 1 v ls.length (ls.map Ls.v)
  res : wr.heap[w0.heap.size + 1]? = some (.cells #[.int .i64 0, .int .i64 0, .string ⟨#[]⟩, .slice none 0 0] 26 (0, 0))
  pos : 0 < ls.length
  root : lsA ls 0 = ⟨w0.heap.size + 2, 1, [e], 0, 0⟩
  blk : ∀ j, j < ls.length → w0.heap.size + 2 ≤ (lsA ls j).g ∧ v.ownBlock ≠ some (lsA ls j).g ∧ (lsA ls j).g ≠ w0.heap.size + 4 ∧ Cln wr (lsA ls j).g
  mbk : v.ownBlock ≠ some (w0.heap.size + 4)
  inj : ∀ j j', j < ls.length → j' < ls.length → (lsA ls j).g = (lsA ls j').g → j = j'
  par : ∀ m, 0 < m → m < ls.length → (lsA ls m).p < m
  sz : ∀ j, j < ls.length → (lsA ls j).l.length ≤ 1048576 ∧ szX (lsA ls j).l ≤ 1048576
  el : ∀ j i, j < ls.length → i < (lsA ls j).l.length → Cel w0 wr F0 ls A I (FF j i) j i
  dis : ∀ j i j' i', j < ls.length → i < (lsA ls j).l.length → ¬ dnC A I j i → j' < ls.length → i' < (lsA ls j').l.length → ¬ dnC A I j' i' → ¬ (j = j' ∧ i = i') → ∀ b ∈ FF j i, b ∉ FF j' i'
  kd : ∀ j i, j < ls.length → i < (lsA ls j).l.length → ¬ dnC A I j i → ∀ k ∈ kz, k.a ∉ FF j i
  kn : kz.length + 1 = ls.length
  ku : (kz.map Kz.a).Nodup
  kf : ∀ k ∈ kz, k.a ∈ F0
theorem cell_eq {w w' : World} {b : Nat} (h : w'.heap[b]? = w.heap[b]?) (o : Nat) : w'.cell? ⟨b, o, none⟩ = w.cell? ⟨b, o, none⟩ := by
  unfold World.cell?
  simp only [h]
section
variable {w0 wr wr' : World} {F0 : List Nat} {e : Ex} {v : Value} {ls : List Ls} {A I : Nat} {FF : Nat → Nat → List Nat} {kz : List Kz}
theorem Cq.cnt (h : Cq w0 wr F0 e v ls A I FF kz) : ls.length ≤ 1 + F0.length := by
  have := nodup_le (kz.map Kz.a) F0 h.ku (fun x hx => by obtain ⟨k, hk, rfl⟩ := List.mem_map.1 hx; exact h.kf k hk)
  rw [List.length_map] at this
  have := h.kn
  omega
theorem Cq.glt (h : Cq w0 wr F0 e v ls A I FF kz) {j : Nat} (hj : j < ls.length) : (lsA ls j).g < wr.heap.size := by
  obtain ⟨_, _, _, cs, t, hh⟩ := h.blk j hj
  exact (Array.getElem?_eq_some_iff.1 hh).1
/-- What keeps the blocks that are meant keeps it. -/
theorem Cq.keep (h : Cq w0 wr F0 e v ls A I FF kz) (hb : Below w0.heap.size w0 wr') (hs : wr.heap.size ≤ wr'.heap.size) (hk : ∀ b, w0.heap.size ≤ b → b < wr.heap.size → b ≠ w0.heap.size + 4 → wr'.heap[b]? = wr.heap[b]?) : Cq w0 wr' F0 e v ls A I FF kz := by
  have hg : ∀ j, j < ls.length → wr'.heap[(lsA ls j).g]? = wr.heap[(lsA ls j).g]? := fun j hj => hk _ (by have := (h.blk j hj).1; omega) (h.glt hj) (h.blk j hj).2.2.1
  refine ⟨hb, Nat.le_trans h.lt hs, ?_, (hk _ (by omega) (Array.getElem?_eq_some_iff.1 h.res).1 (by omega)).trans h.res, h.pos, h.root, fun j hj => ?_, h.mbk, h.inj, h.par, h.sz, fun j i hj hi => ?_, h.dis, h.kd, h.kn, h.ku, h.kf⟩
  · obtain ⟨h1, h2 | ⟨g, cap, cur, e', q1, q2, q3⟩⟩ := h.own
    · exact ⟨h1, .inl h2⟩
    · refine ⟨h1, .inr ⟨g, cap, cur, e', q1, ?_, q3⟩⟩
      rw [hk g (by omega) (Array.getElem?_eq_some_iff.1 q2).1 (fun q => h.mbk (by rw [e']; exact congrArg some q))]
      exact q2
  · obtain ⟨q1, q2, q3, cs, t, hh⟩ := h.blk j hj
    exact ⟨q1, q2, q3, cs, t, (hg j hj).trans hh⟩
  · obtain ⟨c0, c1, c2, sv, c3, d1, d2⟩ := h.el j i hj hi
    exact ⟨(cell_eq (hg j hj) _).trans c0, (cell_eq (hg j hj) _).trans c1, (cell_eq (hg j hj) _).trans c2, sv, (cell_eq (hg j hj) _).trans c3, d1, d2⟩
theorem Cq.later (h : Cq w0 wr F0 e v ls A I FF kz) (hb : Below wr.heap.size wr wr') : Cq w0 wr' F0 e v ls A I FF kz :=
  h.keep (h.bel.trans (hb.mono h.bel.size)) hb.size (fun b _ hl _ => hb.block b hl)
theorem Cq.map (h : Cq w0 wr F0 e v ls A I FF kz) (hg : wr.grownBy wr' (some (w0.heap.size + 4))) : Cq w0 wr' F0 e v ls A I FF kz :=
  h.keep (h.bel.grown hg h.bel.size (fun k q => by cases q; omega)) hg.size (fun b _ hl hn => hg.block b hl (fun q => hn (by cases q; rfl)))
/-- The next list. -/
theorem Cq.next (h : Cq w0 wr F0 e v ls A I FF kz) (hI : (lsA ls A).l.length ≤ I) : Cq w0 wr F0 e v ls (A + 1) 0 FF kz := by
  have hd : ∀ j i, i < (lsA ls j).l.length → (dnC (A + 1) 0 j i ↔ dnC A I j i) := fun j i hi => by
    unfold dnC
    constructor
    · rintro (q | ⟨q, q2⟩)
      · by_cases q3 : j = A
        · subst q3; right; exact ⟨rfl, by omega⟩
        · left; omega
      · omega
    · rintro (q | ⟨q, q2⟩)
      · left; omega
      · left; omega
  refine ⟨h.bel, h.lt, h.own, h.res, h.pos, h.root, h.blk, h.mbk, h.inj, h.par, h.sz, fun j i hj hi => ?_, ?_, ?_, h.kn, h.ku, h.kf⟩
  · obtain ⟨c0, c1, c2, sv, c3, d1, d2⟩ := h.el j i hj hi
    exact ⟨c0, c1, c2, sv, c3, fun q => d1 ((hd j i hi).1 q), fun q => d2 (fun p => q ((hd j i hi).2 p))⟩
  · intro j i j' i' hj hi hd1 hj' hi' hd2
    exact h.dis j i j' i' hj hi (fun p => hd1 ((hd j i hi).2 p)) hj' hi' (fun p => hd2 ((hd j' i' hi').2 p))
  · intro j i hj hi hd1
    exact h.kd j i hj hi (fun p => hd1 ((hd j i hi).2 p))
end
end Go.Proofs.YtkolflcjkofleaaDoor

namespace Go.Proofs.YtkolflcjkofleaaDoor
open Go.ChangeShapes Go.WideShapes Go.ChangeAt Go.RowKit
set_option linter.unusedVariables false
set_option maxRecDepth 8000

theorem made_cells (n : Nat) : (madeCells #[.int .i64 0, .int .i64 0, .string ⟨#[]⟩] (n * 3)).toList = cellsT (List.replicate n T0) := by
  apply List.ext_getElem?
  intro j
  have hl : (cellsT (List.replicate n T0)).length = n * 3 := by rw [cellsT_len, List.length_replicate]
  by_cases hj : j < n * 3
  · have hT : ∀ i, i < n → tAt (List.replicate n T0) i = T0 := fun i hi => by
      unfold tAt
      rw [List.getD_eq_getElem?_getD, List.getElem?_replicate, if_pos hi]
      rfl
    have hg := cellsT_get (List.replicate n T0) (j / 3) (by rw [List.length_replicate]; omega)
    rw [hT (j / 3) (by omega)] at hg
    have hm : (madeCells #[.int .i64 0, .int .i64 0, .string ⟨#[]⟩] (n * 3)).toList[j]? = some ((#[Value.int .i64 0, .int .i64 0, .string ⟨#[]⟩] : Array Value)[j % 3]!) := by
      simp [madeCells, hj]
    rw [hm]
    have h3 : j % 3 = 0 ∨ j % 3 = 1 ∨ j % 3 = 2 := by omega
    rcases h3 with h | h | h
    · have e : j = j / 3 * 3 := by omega
      rw [h]; conv => rhs; rw [e]
      rw [hg.1]; rfl
    · have e : j = j / 3 * 3 + 1 := by omega
      rw [h]; conv => rhs; rw [e]
      rw [hg.2.1]; rfl
    · have e : j = j / 3 * 3 + 2 := by omega
      rw [h]; conv => rhs; rw [e]
      rw [hg.2.2]; rfl
  · rw [List.getElem?_eq_none (by rw [Array.length_toList, size_madeCells]; omega), List.getElem?_eq_none (by omega)]
theorem fill_step (ts : List Tk) (k n : Nat) (hn : ts.length = n) (hk : k < n) : (ts.take k ++ List.replicate (n - k) T0).set k (tAt ts k) = ts.take (k + 1) ++ List.replicate (n - (k + 1)) T0 := by
  have e1 : (ts.take k).length = k := by rw [List.length_take]; omega
  have e2 : n - k = (n - (k + 1)) + 1 := by omega
  rw [List.set_append_right _ _ (by omega), e1, Nat.sub_self, e2, List.replicate_succ, List.set_cons_zero]
  rw [show ts.take (k + 1) = ts.take k ++ [ts[k]'(by omega)] from List.take_succ_eq_append_getElem (by omega)]
  unfold tAt
  rw [List.getD_eq_getElem?_getD, List.getElem?_eq_getElem (by omega), List.append_assoc]
  rfl
end Go.Proofs.YtkolflcjkofleaaDoor

namespace Go.Proofs.YtkolflcjkofleaaDoor
open Go.ChangeShapes Go.WideShapes Go.ChangeAt Go.RowKit
set_option linter.unusedVariables false
set_option maxRecDepth 8000

def d10 (x : Nat) : UInt8 := UInt8.ofNat (48 + x)
/-- The digits to the base 10, ahead of t, by so many steps. -/
def decG : Nat → Nat → List UInt8 → List UInt8
  | 0, _, t => t
  | n + 1, m, t => if m = 0 then t else decG n (m / 10) (d10 (m % 10) :: t)
theorem decG_more : ∀ (n k m : Nat) (t : List UInt8), m ≤ n → m ≤ k → decG n m t = decG k m t := by
  intro n
  induction n with
  | zero =>
    intro k m t hn hk
    obtain rfl : m = 0 := by omega
    cases k with
    | zero => rfl
    | succ k => rfl
  | succ n ih =>
    intro k m t hn hk
    by_cases h0 : m = 0
    · subst h0
      cases k with
      | zero => rfl
      | succ k => rfl
    · cases k with
      | zero => omega
      | succ k =>
        simp only [decG]
        rw [ih k (m / 10) _ (by omega) (by omega)]
/-- The digits to the base 10, ahead of t. -/
def decA (m : Nat) (t : List UInt8) : List UInt8 := decG m m t
theorem decA_0 (t : List UInt8) : decA 0 t = t := rfl
theorem decA_s {m : Nat} (h : m ≠ 0) (t : List UInt8) : decA m t = decA (m / 10) (d10 (m % 10) :: t) := by
  obtain ⟨n, rfl⟩ : ∃ n, m = n + 1 := ⟨m - 1, by omega⟩
  unfold decA
  rw [decG, if_neg h]
  exact decG_more _ _ _ _ (by omega) (Nat.le_refl _)
/-- The marks' text. -/
def mkTx (k : Nat) : ByteArray := ⟨#[109]⟩ ++ strOf (decA k [])
theorem one_conv10 (W : World) (d : Nat) (hd : d < 10) (x : Int) (hx : x = 48 + (d : Int)) (b : Nat) (hb : b = W.heap.size) : (convert 22 9 (.slice (some ⟨b, 0, none⟩) 1 1)).run Tryd.prog (W.alloc (.cells #[.int .u8 x] 5)) = .ok (.string (strOf [d10 d])) (W.alloc (.cells #[.int .u8 x] 5)) := by
  subst hb
  exact run_convert_bytes_back (P := Tryd.prog) (W.alloc (.cells #[.int .u8 x] 5)) 22 9 5 ⟨W.heap.size, 0, none⟩ 1 [d10 d] Tryd.underlying22 Tryd.underlying5 Tryd.underlying9 (fun j hj => by
    obtain rfl : j = 0 := by simp at hj; omega
    have e : ((d10 d).toNat : Int) = x := by unfold d10; simp; omega
    simp only [List.getElem_cons_zero, e]
    simp [Addr.add])
set_option maxHeartbeats 1000000 in
theorem markTx_any (k : Nat) (hk0 : 0 < k) (hk : k ≤ 16777216) (w : World) : Calls Tryd.prog 65 #[.int .i64 k] w fun e w' => e = .returned (.string (mkTx k)) ∧ Below w.heap.size w w' := by
  unfold mkTx
  obtain ⟨T, hT⟩ : ∃ T, decA k [] = T := ⟨_, rfl⟩
  have HT := hide hT
  rw [hT]
  clear hT
  go_enter Tryd.func65, Tryd.ntmps65
  go_wp2
  go_loopw [0, 3] (fun i s wr => ∃ (m : Nat) (t : List UInt8), m + t.length ≤ 16777216 ∧ i = .int .i64 m ∧ s = .string (strOf t) ∧ Hid (decA m t = T) ∧ Below w.heap.size w wr) (fun i _ _ => (intOf i).toNat)
  case atStart => exact ⟨k, [], by simp; omega, rfl, rfl, unhide HT, Below.refl _ _⟩
  case round =>
    clear HT
    obtain ⟨m, t, hm, rfl, rfl, hd, hb⟩ := hrel
    by_cases h0 : m = 0
    · subst h0
      have E := hide ((decA_0 t).symm.trans hd.out)
      have hsz : (strOf t).size ≤ 16777216 := by rw [strOf_size]; omega
      clear hd
      rw [unhide E] at hsz ⊢
      go_wp2
      go_ret
      exact ⟨rfl, hb⟩
    · have E := hide ((decA_s h0 t).symm.trans hd.out)
      have hc := one_conv10 wr (m % 10) (by omega) (48 + (m : Int) % 10) (by omega)
      have hsz : (strOf t).size ≤ 16777216 := by rw [strOf_size]; omega
      have hsz1 := strOf_size [d10 (m % 10)]
      have hp : (0 : Int) < (m : Int) := by omega
      have AP := hide (strOf_append [d10 (m % 10)] t)
      clear hd
      go_wp2
      go_roundw
      case rel => exact ⟨m / 10, d10 (m % 10) :: t, by rw [List.length_cons]; omega, by go_num, by rw [unhide AP]; rfl, unhide E, hb.alloc hb.size _⟩
      case measure => simp [intOf]; omega

def mT (i : Nat) : Tk := ⟨((1 + 3 * i : Nat) : Int), ((2 + 3 * i : Nat) : Int), mkTx (3 + 3 * i)⟩
/-- What the marks leave. -/
def marksT (n : Nat) : List Tk := (List.range n).map mT
theorem marksT_len (n : Nat) : (marksT n).length = n := by simp [marksT]
theorem marksT_at (n i : Nat) (h : i < n) : tAt (marksT n) i = mT i := by
  unfold tAt marksT
  rw [List.getD_eq_getElem?_getD, List.getElem?_map, List.getElem?_range h]
  rfl
theorem mark_stepT (ts : List Tk) (k : Nat) (h : k < ts.length) : (marksT k ++ ts.drop k).set k (mT k) = marksT (k + 1) ++ ts.drop (k + 1) := by
  have e1 : marksT (k + 1) = marksT k ++ [mT k] := by simp [marksT, List.range_succ]
  rw [List.set_append_right _ _ (by rw [marksT_len]; omega), marksT_len, Nat.sub_self, List.drop_eq_getElem_cons h, List.set_cons_zero, e1, List.append_assoc]
  rfl
end Go.Proofs.YtkolflcjkofleaaDoor

namespace Go.Proofs.YtkolflcjkofleaaDoor
open Go.ChangeShapes Go.WideShapes Go.ChangeAt Go.RowKit
set_option linter.unusedVariables false
set_option maxRecDepth 8000

/-- How many parts a term has, all within. -/
def Ex.ct : Ex → Nat
  | ⟨_, _, _, l⟩ => l.length + (l.map Ex.ct).sum
def ctX (l : List Ex) : Nat := l.length + (l.map Ex.ct).sum
theorem ct_is (e : Ex) : e.ct = ctX e.l := by obtain ⟨k, n, s, l⟩ := e; rw [Ex.ct]; rfl
theorem ctX_take (l : List Ex) (k : Nat) (h : k < l.length) : ctX (l.take (k + 1)) = ctX (l.take k) + 1 + (xAt l k).ct := by
  unfold ctX
  rw [List.take_succ_eq_append_getElem h, List.map_append, List.sum_append, List.length_append, xAt_get h]
  simp
  omega
theorem ctX_le (l : List Ex) (k : Nat) : ctX (l.take k) ≤ ctX l := by
  induction l generalizing k with
  | nil => simp [ctX]
  | cons a r ih =>
    cases k with
    | zero => simp [ctX]
    | succ k =>
      have := ih k
      unfold ctX at this ⊢
      simp only [List.take_succ_cons, List.map_cons, List.sum_cons, List.length_cons]
      omega
/-- Where the marks of a part begin. -/
def posX (l : List Ex) (k i : Nat) : Nat := k + 3 * ctX (l.take i)
theorem posX_0 (l : List Ex) (k : Nat) : posX l k 0 = k := by simp [posX, ctX]
theorem posX_s (l : List Ex) (k i : Nat) (h : i < l.length) : posX l k (i + 1) = posX l k i + 3 + 3 * (xAt l i).ct := by
  unfold posX
  rw [ctX_take l i h]
  omega
theorem posX_end (l : List Ex) (k : Nat) : posX l k l.length = k + 3 * ctX l := by unfold posX; rw [List.take_length]
theorem posX_le (l : List Ex) (k i : Nat) (h : i < l.length) : posX l k i + 3 + 3 * (xAt l i).ct ≤ k + 3 * ctX l := by
  rw [← posX_s l k i h]
  unfold posX
  have := ctX_le l (i + 1)
  omega
/-- A term whose parts are marked from k on. -/
def MkX : Ex → Nat → Ex → Prop
  | ⟨_, _, _, l⟩, k, e' => e'.l.length = l.length ∧ ∀ x ∈ l, ∀ i, l[i]? = some x → (xAt e'.l i).k = ((posX l k i : Nat) : Int) ∧ (xAt e'.l i).n = ((posX l k i + 1 : Nat) : Int) ∧ (xAt e'.l i).s = mkTx (posX l k i + 2) ∧ MkX x (posX l k i + 3) (xAt e'.l i)
def MkOne (l : List Ex) (k i : Nat) (y : Ex) : Prop := y.k = ((posX l k i : Nat) : Int) ∧ y.n = ((posX l k i + 1 : Nat) : Int) ∧ y.s = mkTx (posX l k i + 2) ∧ MkX (xAt l i) (posX l k i + 3) y
theorem MkX_eq (e : Ex) (k : Nat) (e' : Ex) : MkX e k e' ↔ (e'.l.length = e.l.length ∧ ∀ i, i < e.l.length → MkOne e.l k i (xAt e'.l i)) := by
  obtain ⟨ek, n, s, l⟩ := e
  rw [MkX]
  refine and_congr Iff.rfl ⟨fun h i hi => ?_, fun h x hx i hi => ?_⟩
  · exact h _ (xAt_mem hi) i (by rw [xAt_get hi]; exact List.getElem?_eq_getElem hi)
  · obtain ⟨hl, e⟩ := List.getElem?_eq_some_iff.1 hi
    have := h i hl
    unfold MkOne at this
    rw [xAt_get hl, e] at this
    exact this
theorem MkX.len {e : Ex} {k : Nat} {y : Ex} (h : MkX e k y) : y.l.length = e.l.length := ((MkX_eq e k y).1 h).1
theorem MkX.of {e : Ex} {k : Nat} {y z : Ex} (h : MkX e k y) (hl : z.l = y.l) : MkX e k z := by
  rw [MkX_eq] at h ⊢
  rw [hl]
  exact h
theorem xAt_set_eq {l : List Ex} {i : Nat} (h : i < l.length) (y : Ex) : xAt (l.set i y) i = y := by
  unfold xAt
  rw [List.getD_eq_getElem?_getD, List.getElem?_set_self h]
  rfl
theorem xAt_set_ne {l : List Ex} {i j : Nat} (h : i ≠ j) (y : Ex) : xAt (l.set i y) j = xAt l j := by
  unfold xAt
  rw [List.getD_eq_getElem?_getD, List.getD_eq_getElem?_getD, List.getElem?_set_ne h]
/-- Of lists whose members all differ no two share one. -/
theorem flat_apart : ∀ (Fs : List (List Nat)) (i j x : Nat), Fs.flatten.Nodup → i ≠ j → x ∈ Fs.getD i [] → x ∉ Fs.getD j [] := by
  intro Fs
  induction Fs with
  | nil => intro i j x _ _ h; simp at h
  | cons F r ih =>
    intro i j x hn hij hx hy
    rw [List.flatten_cons, List.nodup_append] at hn
    obtain ⟨h1, h2, h3⟩ := hn
    cases i with
    | zero =>
      cases j with
      | zero => exact hij rfl
      | succ j => exact h3 x (by simpa using hx) x (getD_flat (i := j) (by simpa using hy)) rfl
    | succ i =>
      cases j with
      | zero => exact h3 x (by simpa using hy) x (getD_flat (i := i) (by simpa using hx)) rfl
      | succ j => exact ih i j x h2 (by omega) (by simpa using hx) (by simpa using hy)
theorem flat_part : ∀ (Fs : List (List Nat)) (i : Nat), Fs.flatten.Nodup → (Fs.getD i []).Nodup := by
  intro Fs
  induction Fs with
  | nil => intro i _; simp
  | cons F r ih =>
    intro i hn
    rw [List.flatten_cons, List.nodup_append] at hn
    cases i with
    | zero => simpa using hn.1
    | succ i => simpa using ih i hn.2.1
/-- A row with one part turned, its parts within turned in their own blocks. -/
theorem OwOne.turn {wr w5 : World} {ys : List Ex} {b : Nat} {cs cs5 : Array Value} {Fs : List (List Nat)} {i : Nat} {y : Ex} {c : Option Addr} {cp : Nat}
    (hr : ∀ j, j < ys.length → OwOne wr cs j (xAt ys j) (Fs.getD j [])) (hn : (b :: Fs.flatten).Nodup) (hi : i < ys.length)
    (hs : ∀ j, j ≠ i * 4 → j ≠ i * 4 + 1 → j ≠ i * 4 + 2 → cs5[j]? = cs[j]?)
    (d0 : cs5[i * 4]? = some (.int .i64 y.k)) (d1 : cs5[i * 4 + 1]? = some (.int .i64 y.n)) (d2 : cs5[i * 4 + 2]? = some (.string y.s)) (d3 : cs5[i * 4 + 3]? = some (.slice c y.l.length cp)) (hx : OwX w5 y c (Fs.getD i []))
    (hk : ∀ g, g ∈ Fs.flatten → g ∉ Fs.getD i [] → w5.heap[g]? = wr.heap[g]?) : ∀ j, j < ys.length → OwOne w5 cs5 j (xAt (ys.set i y) j) (Fs.getD j []) := by
  rw [List.nodup_cons] at hn
  intro j hj
  by_cases hij : i = j
  · subst hij
    rw [xAt_set_eq hi]
    exact ⟨d0, d1, d2, c, cp, d3, hx⟩
  · rw [xAt_set_ne hij]
    obtain ⟨p0, p1, p2, c', cap', p3, p4⟩ := hr j hj
    exact ⟨(hs _ (by omega) (by omega) (by omega)).trans p0, (hs _ (by omega) (by omega) (by omega)).trans p1, (hs _ (by omega) (by omega) (by omega)).trans p2, c', cap', (hs _ (by omega) (by omega) (by omega)).trans p3, OwX.keep _ _ _ (fun g hg => hk g (getD_flat hg) (flat_apart _ _ _ _ hn.2 (Ne.symm hij) hg)) p4⟩
end Go.Proofs.YtkolflcjkofleaaDoor

namespace Go.Proofs.YtkolflcjkofleaaDoor
open Go.ChangeShapes Go.WideShapes Go.ChangeAt Go.RowKit
set_option linter.unusedVariables false
set_option maxRecDepth 8000
set_option linter.unusedSimpArgs false

theorem dn_step {A I j i : Nat} : dnC A (I + 1) j i ↔ (dnC A I j i ∨ (j = A ∧ i = I)) := by
  unfold dnC
  constructor
  · rintro (h | ⟨h1, h2⟩)
    · exact .inl (.inl h)
    · by_cases h3 : i = I
      · exact .inr ⟨h1, h3⟩
      · exact .inl (.inr ⟨h1, by omega⟩)
  · rintro ((h | ⟨h1, h2⟩) | ⟨h1, h2⟩)
    · exact .inl h
    · exact .inr ⟨h1, by omega⟩
    · exact .inr ⟨h1, by omega⟩
theorem dn_not (A I : Nat) : ¬ dnC A I A I := by
  unfold dnC
  rintro (h | ⟨_, h⟩) <;> omega
theorem cell_set_ne {w : World} {g o o2 : Nat} {v : Value} (h : o2 ≠ o) : (w.setCell ⟨g, o, none⟩ v).cell? ⟨g, o2, none⟩ = w.cell? ⟨g, o2, none⟩ := World.cell?_setCell_other w _ _ v (fun e => h (by cases e; rfl))
section
variable {w0 wr wr' : World} {F0 : List Nat} {e : Ex} {v : Value} {ls : List Ls} {A I : Nat} {FF : Nat → Nat → List Nat} {kz : List Kz}
/-- What is read of the part that comes next. -/
theorem Cq.here (h : Cq w0 wr F0 e v ls A I FF kz) (hA : A < ls.length) (hI : I < (lsA ls A).l.length) : ∃ c cp, wr.cell? ⟨(lsA ls A).g, I * 4 + 2, none⟩ = some (.string (xAt (lsA ls A).l I).s) ∧ wr.cell? ⟨(lsA ls A).g, I * 4 + 3, none⟩ = some (.slice c (xAt (lsA ls A).l I).l.length cp) ∧ OwX w0 (xAt (lsA ls A).l I) c (FF A I) ∧ (FF A I).Nodup ∧ ∀ b ∈ FF A I, b ∈ F0 := by
  obtain ⟨_, _, c2, sv, c3, _, d2⟩ := h.el A I hA hI
  obtain ⟨c, cp, rfl, o1, o2, o3⟩ := d2 (dn_not A I)
  exact ⟨c, cp, c2, c3, o1, o2, o3⟩
theorem heap_set {w : World} {g o : Nat} {cs : Array Value} {t : TypeId} {v : Value} (h : w.heap[g]? = some (.cells cs t (0, 0))) : (w.setCell ⟨g, o, none⟩ v).heap[g]? = some (.cells (cs.setIfInBounds o v) t (0, 0)) := heap_setCell_same w g o cs t v h
/-- A part without parts. -/
theorem Cq.nil (h : Cq w0 wr F0 e v ls A I FF kz) (hA : A < ls.length) (hI : I < (lsA ls A).l.length) (h0 : (xAt (lsA ls A).l I).l = []) : Cq w0 (wr.setCell ⟨(lsA ls A).g, I * 4 + 3, none⟩ (.slice none 0 0)) F0 e v ls A (I + 1) FF kz := by
  obtain ⟨hb1, hb2, hb3, cs, t, hh⟩ := h.blk A hA
  have hoth : ∀ b, b ≠ (lsA ls A).g → (wr.setCell ⟨(lsA ls A).g, I * 4 + 3, none⟩ (.slice none 0 0)).heap[b]? = wr.heap[b]? := fun b hb => heap_setCell_other wr ⟨(lsA ls A).g, I * 4 + 3, none⟩ b _ hb
  have hgo : ∀ j, j < ls.length → j ≠ A → (wr.setCell ⟨(lsA ls A).g, I * 4 + 3, none⟩ (.slice none 0 0)).heap[(lsA ls j).g]? = wr.heap[(lsA ls j).g]? := fun j hj hne => hoth _ (fun q => hne (h.inj j A hj hA q))
  have hsz : (wr.setCell ⟨(lsA ls A).g, I * 4 + 3, none⟩ (.slice none 0 0)).heap.size = wr.heap.size := by simp
  refine ⟨h.bel.setCell (p := ⟨(lsA ls A).g, I * 4 + 3, none⟩) (by show w0.heap.size ≤ (lsA ls A).g; omega) _, by rw [hsz]; exact h.lt, ?_, (hoth _ (by omega)).trans h.res, h.pos, h.root, fun j hj => ?_, h.mbk, h.inj, h.par, h.sz, fun j i hj hi => ?_, ?_, ?_, h.kn, h.ku, h.kf⟩
  · obtain ⟨h1, h2 | ⟨g, cap, cur, e', q1, q2, q3⟩⟩ := h.own
    · exact ⟨h1, .inl h2⟩
    · exact ⟨h1, .inr ⟨g, cap, cur, e', q1, (hoth g (fun q => hb2 (by rw [e', ← q]; rfl))).trans q2, q3⟩⟩
  · obtain ⟨q1, q2, q3, cs', t', hh'⟩ := h.blk j hj
    by_cases hj2 : j = A
    · subst hj2
      exact ⟨q1, q2, q3, _, t, heap_set hh⟩
    · exact ⟨q1, q2, q3, cs', t', (hgo j hj hj2).trans hh'⟩
  · obtain ⟨c0, c1, c2, sv, c3, d1, d2⟩ := h.el j i hj hi
    by_cases hj2 : j = A
    · subst hj2
      by_cases hi2 : i = I
      · subst hi2
        have hl : i * 4 + 3 < cs.size := by
          have := c3
          rw [Lib.cell_of_heap hh] at this
          exact (Array.getElem?_eq_some_iff.1 this).1
        refine ⟨(cell_set_ne (by omega)).trans c0, (cell_set_ne (by omega)).trans c1, (cell_set_ne (by omega)).trans c2, .slice none 0 0, ?_, fun _ => .inl ⟨h0, rfl⟩, fun q => absurd (dn_step.2 (.inr ⟨rfl, rfl⟩)) q⟩
        rw [Lib.cell_of_heap (heap_set hh)]
        simp [hl]
      · refine ⟨(cell_set_ne (by omega)).trans c0, (cell_set_ne (by omega)).trans c1, (cell_set_ne (by omega)).trans c2, sv, (cell_set_ne (by omega)).trans c3, fun q => ?_, fun q => ?_⟩
        · rcases dn_step.1 q with q | ⟨_, q⟩
          · exact d1 q
          · exact absurd q hi2
        · exact d2 (fun p => q (dn_step.2 (.inl p)))
    · have hg := hgo j hj hj2
      refine ⟨(cell_eq hg _).trans c0, (cell_eq hg _).trans c1, (cell_eq hg _).trans c2, sv, (cell_eq hg _).trans c3, fun q => ?_, fun q => d2 (fun p => q (dn_step.2 (.inl p)))⟩
      rcases dn_step.1 q with q | ⟨q, _⟩
      · exact d1 q
      · exact absurd q hj2
  · intro j i j' i' hj hi hd1 hj' hi' hd2
    exact h.dis j i j' i' hj hi (fun p => hd1 (dn_step.2 (.inl p))) hj' hi' (fun p => hd2 (dn_step.2 (.inl p)))
  · intro j i hj hi hd1
    exact h.kd j i hj hi (fun p => hd1 (dn_step.2 (.inl p)))
/-- A part with parts: its list is copied, and comes behind all there are. -/
theorem Cq.more {w6 : World} {v' : Value} {b : Nat} {Fs : List (List Nat)} {z : Ls} {cur : Array Value} {tc : TypeId} {kv : Nat} (h : Cq w0 wr F0 e v ls A I FF kz) (hA : A < ls.length) (hI : I < (lsA ls A).l.length) (hne : (xAt (lsA ls A).l I).l ≠ [])
    (hF : FF A I = b :: Fs.flatten) (hFs : Fs.length = (xAt (lsA ls A).l I).l.length)
    (zl : z.l = (xAt (lsA ls A).l I).l) (zp : z.p = A) (zq : z.q = I)
    (n1 : ∀ j, j < ls.length → (lsA ls j).g < z.g) (n2 : v.ownBlock ≠ some z.g) (n3 : w0.heap.size + 5 ≤ z.g) (hcur : wr.heap[z.g]? = some (.cells cur tc (0, 0)))
    (hch : ∀ i, i < z.l.length → cur[i * 4]? = some (.int .i64 (xAt z.l i).k) ∧ cur[i * 4 + 1]? = some (.int .i64 (xAt z.l i).n) ∧ cur[i * 4 + 2]? = some (.string (xAt z.l i).s) ∧ ∃ c cp, cur[i * 4 + 3]? = some (.slice c (xAt z.l i).l.length cp) ∧ OwX w0 (xAt z.l i) c (Fs.getD i []))
    (k0 : Below w0.heap.size w0 w6) (k1 : wr.heap.size ≤ w6.heap.size) (k2 : ∀ q, q < wr.heap.size → q ≠ (lsA ls A).g → v.ownBlock ≠ some q → w6.heap[q]? = wr.heap[q]?)
    (k3 : ∀ cs t, wr.heap[(lsA ls A).g]? = some (.cells cs t (0, 0)) → w6.heap[(lsA ls A).g]? = some (.cells (cs.setIfInBounds (I * 4 + 3) z.v) t (0, 0)))
    (k4 : w6.ownsRow (w0.heap.size + 2) 24 1 v' (ls.length + 1) (ls.map Ls.v ++ [z.v])) (k5 : v'.ownBlock = v.ownBlock ∨ ∃ q, v'.ownBlock = some q ∧ wr.heap.size ≤ q) :
    Cq w0 w6 F0 e v' (ls ++ [z]) A (I + 1) (fun j i => if j = ls.length then Fs.getD i [] else FF j i) (kz ++ [⟨b, z.l.length, kv⟩]) := by
  obtain ⟨hb1, hb2, hb3, cs, t, hh⟩ := h.blk A hA
  have hFn := (h.here hA hI).choose_spec.choose_spec.2.2.2
  rw [hF] at hFn
  obtain ⟨hFn1, hFn2⟩ := hFn
  have hFn3 := List.nodup_cons.1 hFn1
  have zlt : z.g < wr.heap.size := (Array.getElem?_eq_some_iff.1 hcur).1
  have hlen : (ls ++ [z]).length = ls.length + 1 := by simp
  have old : ∀ {j}, j < ls.length → lsA (ls ++ [z]) j = lsA ls j := fun hj => lsA_old hj
  have new : lsA (ls ++ [z]) ls.length = z := lsA_new
  have split : ∀ {j}, j < (ls ++ [z]).length → j < ls.length ∨ j = ls.length := fun hj => by rw [hlen] at hj; omega
  have hv'n : ∀ q, q < wr.heap.size → v.ownBlock ≠ some q → v'.ownBlock ≠ some q := fun q hq hn e' => by
    rcases k5 with k5 | ⟨q2, k5, k6⟩
    · exact hn (k5.symm.trans e')
    · rw [k5] at e'; cases e'; omega
  have hgo : ∀ j, j < ls.length → j ≠ A → w6.heap[(lsA ls j).g]? = wr.heap[(lsA ls j).g]? := fun j hj hn => k2 _ (h.glt hj) (fun q => hn (h.inj j A hj hA q)) (h.blk j hj).2.1
  have hgn : w6.heap[z.g]? = wr.heap[z.g]? := k2 _ zlt (fun q => by have := n1 A hA; omega) n2
  have hnd : ∀ j i, j < ls.length → ¬ dnC A (I + 1) j i → ¬ dnC A I j i := fun j i _ q p => q (dn_step.2 (.inl p))
  have hnew : ∀ i, ¬ dnC A (I + 1) ls.length i := fun i q => by
    unfold dnC at q
    rcases q with q | ⟨q, _⟩ <;> omega
  have hsub : ∀ i x, x ∈ Fs.getD i [] → x ∈ FF A I := fun i x hx => by rw [hF]; exact List.mem_cons_of_mem _ (getD_flat hx)
  refine ⟨k0, Nat.le_trans h.lt k1, by rw [hlen, List.map_append]; exact k4, (k2 _ (Array.getElem?_eq_some_iff.1 h.res).1 (by omega) (fun q => ?_)).trans h.res, by rw [hlen]; omega, (old h.pos).trans h.root, fun j hj => ?_, hv'n _ (by have := h.lt; omega) h.mbk, fun j j' hj hj' hg => ?_, fun m h0 hm => ?_, fun j hj => ?_, fun j i hj hi => ?_, fun j i j' i' hj hi hd1 hj' hi' hd2 hne' => ?_, fun j i hj hi hd1 k hk => ?_, by simp [hlen, h.kn], ?_, fun k hk => ?_⟩
  · obtain ⟨_, ⟨e', _⟩ | ⟨g, cap, cur', e', q1, _⟩⟩ := h.own
    · rw [e'] at q; cases q
    · rw [e'] at q
      have : g = w0.heap.size + 1 := by simpa [Value.ownBlock] using q
      omega
  · rcases split hj with hj | rfl
    · rw [old hj]
      obtain ⟨q1, q2, q3, cs', t', hh'⟩ := h.blk j hj
      refine ⟨q1, hv'n _ (h.glt hj) q2, q3, ?_⟩
      by_cases hj2 : j = A
      · subst hj2
        exact ⟨_, t, k3 cs t hh⟩
      · exact ⟨cs', t', (hgo j hj hj2).trans hh'⟩
    · rw [new]
      exact ⟨by omega, hv'n _ zlt n2, by omega, cur, tc, hgn.trans hcur⟩
  · rcases split hj with hj | rfl <;> rcases split hj' with hj' | rfl
    · rw [old hj, old hj'] at hg; exact h.inj j j' hj hj' hg
    · rw [old hj, new] at hg; have := n1 j hj; omega
    · rw [old hj', new] at hg; have := n1 j' hj'; omega
    · rfl
  · rcases split hm with hm | rfl
    · rw [old hm]; exact h.par m h0 hm
    · rw [new, zp]; exact hA
  · rcases split hj with hj | rfl
    · rw [old hj]; exact h.sz j hj
    · rw [new, zl]
      have h1 := (h.sz A hA).2
      have h2 := sz_part hI
      have h3 := sz_is (xAt (lsA ls A).l I)
      omega
  · rcases split hj with hj | rfl
    · rw [if_neg (by omega)]
      unfold Cel
      rw [old hj] at hi ⊢
      obtain ⟨c0, c1, c2, sv, c3, d1, d2⟩ := h.el j i hj hi
      have lift : (((xAt (lsA ls j).l i).l = [] ∧ sv = .slice none 0 0) ∨ ∃ m, j < m ∧ m < ls.length ∧ (lsA ls m).p = j ∧ (lsA ls m).q = i ∧ (lsA ls m).l = (xAt (lsA ls j).l i).l ∧ sv = (lsA ls m).v) → (((xAt (lsA ls j).l i).l = [] ∧ sv = .slice none 0 0) ∨ ∃ m, j < m ∧ m < (ls ++ [z]).length ∧ (lsA (ls ++ [z]) m).p = j ∧ (lsA (ls ++ [z]) m).q = i ∧ (lsA (ls ++ [z]) m).l = (xAt (lsA ls j).l i).l ∧ sv = (lsA (ls ++ [z]) m).v) := by
        rintro (q | ⟨m, q1, q2, q3, q4, q5, q6⟩)
        · exact .inl q
        · exact .inr ⟨m, q1, by rw [hlen]; omega, by rw [old q2]; exact q3, by rw [old q2]; exact q4, by rw [old q2]; exact q5, by rw [old q2]; exact q6⟩
      by_cases hj2 : j = A
      · subst hj2
        have hw6 := k3 cs t hh
        have ce : ∀ o, o ≠ I * 4 + 3 → w6.cell? ⟨(lsA ls j).g, o, none⟩ = wr.cell? ⟨(lsA ls j).g, o, none⟩ := fun o ho => by
          rw [Lib.cell_of_heap hw6, Lib.cell_of_heap hh]
          exact Array.getElem?_setIfInBounds_ne (Ne.symm ho)
        by_cases hi2 : i = I
        · subst hi2
          have hl : i * 4 + 3 < cs.size := by
            have := c3
            rw [Lib.cell_of_heap hh] at this
            exact (Array.getElem?_eq_some_iff.1 this).1
          refine ⟨(ce _ (by omega)).trans c0, (ce _ (by omega)).trans c1, (ce _ (by omega)).trans c2, z.v, ?_, fun _ => .inr ⟨ls.length, hj, by rw [hlen]; omega, by rw [new]; exact zp, by rw [new]; exact zq, by rw [new]; exact zl, by rw [new]⟩, fun q => absurd (dn_step.2 (.inr ⟨rfl, rfl⟩)) q⟩
          rw [Lib.cell_of_heap hw6]
          simp [hl]
        · refine ⟨(ce _ (by omega)).trans c0, (ce _ (by omega)).trans c1, (ce _ (by omega)).trans c2, sv, (ce _ (by omega)).trans c3, fun q => ?_, fun q => d2 (hnd j i hj q)⟩
          rcases dn_step.1 q with q | ⟨_, q⟩
          · exact lift (d1 q)
          · exact absurd q hi2
      · have hg := hgo j hj hj2
        refine ⟨(cell_eq hg _).trans c0, (cell_eq hg _).trans c1, (cell_eq hg _).trans c2, sv, (cell_eq hg _).trans c3, fun q => ?_, fun q => d2 (hnd j i hj q)⟩
        rcases dn_step.1 q with q | ⟨q, _⟩
        · exact lift (d1 q)
        · exact absurd q hj2
    · rw [if_pos rfl]
      unfold Cel
      rw [new] at hi ⊢
      obtain ⟨c0, c1, c2, c, cp, c3, c4⟩ := hch i hi
      have hc6 : w6.heap[z.g]? = some (.cells cur tc (0, 0)) := hgn.trans hcur
      refine ⟨(Lib.cell_of_heap hc6 _).trans c0, (Lib.cell_of_heap hc6 _).trans c1, (Lib.cell_of_heap hc6 _).trans c2, _, (Lib.cell_of_heap hc6 _).trans c3, fun q => absurd q (hnew i), fun _ => ⟨c, cp, rfl, c4, ?_, fun x hx => hFn2 x (List.mem_cons_of_mem _ (getD_flat hx))⟩⟩
      exact flat_part Fs i hFn3.2
  · rcases split hj with hj | rfl <;> rcases split hj' with hj' | rfl
    · rw [old hj] at hi
      rw [old hj'] at hi'
      intro x hx
      rw [if_neg (by omega)] at hx ⊢
      exact h.dis j i j' i' hj hi (hnd j i hj hd1) hj' hi' (hnd j' i' hj' hd2) hne' x hx
    · rw [old hj] at hi
      intro x hx hx'
      rw [if_neg (by omega)] at hx
      rw [if_pos rfl] at hx'
      refine h.dis j i A I hj hi (hnd j i hj hd1) hA hI (dn_not A I) (fun q => hd1 (dn_step.2 (.inr q))) x hx (hsub i' x hx')
    · rw [old hj'] at hi'
      intro x hx hx'
      rw [if_pos rfl] at hx
      rw [if_neg (by omega)] at hx'
      exact h.dis j' i' A I hj' hi' (hnd j' i' hj' hd2) hA hI (dn_not A I) (fun q => hd2 (dn_step.2 (.inr q))) x hx' (hsub i x hx)
    · intro x hx hx'
      rw [if_pos rfl] at hx hx'
      exact flat_apart Fs i i' x hFn3.2 (fun q => hne' ⟨rfl, q⟩) hx hx'
  · rcases split hj with hj | rfl
    · rw [old hj] at hi
      rw [if_neg (by omega)]
      rcases List.mem_append.1 hk with hk | hk
      · exact h.kd j i hj hi (hnd j i hj hd1) k hk
      · obtain rfl := List.mem_singleton.1 hk
        intro hx
        exact h.dis j i A I hj hi (hnd j i hj hd1) hA hI (dn_not A I) (fun q => hd1 (dn_step.2 (.inr q))) b hx (by rw [hF]; exact List.mem_cons_self)
    · rw [if_pos rfl]
      rcases List.mem_append.1 hk with hk | hk
      · exact fun hx => h.kd A I hA hI (dn_not A I) k hk (hsub i _ hx)
      · obtain rfl := List.mem_singleton.1 hk
        exact fun hx => hFn3.1 (getD_flat hx)
  · rw [List.map_append]
    refine List.nodup_append.2 ⟨h.ku, by simp, fun a ha b' hb' q => ?_⟩
    have hb' : b' = b := by simpa using hb'
    subst hb' q
    obtain ⟨k, hk, rfl⟩ := List.mem_map.1 ha
    exact h.kd A I hA hI (dn_not A I) k hk (by rw [hF]; exact List.mem_cons_self)
  · rcases List.mem_append.1 hk with hk | hk
    · exact h.kf k hk
    · obtain rfl := List.mem_singleton.1 hk
      exact hFn2 b List.mem_cons_self
end
end Go.Proofs.YtkolflcjkofleaaDoor

namespace Go.Proofs.YtkolflcjkofleaaDoor
open Go.ChangeShapes Go.WideShapes Go.ChangeAt Go.RowKit
set_option linter.unusedVariables false
set_option maxRecDepth 8000
set_option linter.unusedSimpArgs false

section
variable {w0 wr : World} {F0 : List Nat} {e : Ex} {v : Value} {ls : List Ls} {FF : Nat → Nat → List Nat} {kz : List Kz}
/-- What a part that was copied has: its blocks are those of the lists that lie under it. -/
def Und (wr : World) (ls : List Ls) (j i : Nat) (F : List Nat) : Prop := F.Nodup ∧ ∀ b ∈ F, ∃ m t a, m < ls.length ∧ b = (lsA ls m).g ∧ j < a ∧ a < ls.length ∧ (lsA ls a).p = j ∧ (lsA ls a).q = i ∧ upL ls t m = a
theorem Cq.parts (h : Cq w0 wr F0 e v ls ls.length 0 FF kz) : ∀ n j, ls.length - j ≤ n → j < ls.length → ∀ i, i < (lsA ls j).l.length → ∃ (c : Option Addr) (cp : Nat) (F : List Nat), wr.cell? ⟨(lsA ls j).g, i * 4 + 3, none⟩ = some (.slice c (xAt (lsA ls j).l i).l.length cp) ∧ OwX wr (xAt (lsA ls j).l i) c F ∧ Und wr ls j i F := by
  have hp : ∀ m, m < ls.length → (lsA ls m).p ≤ m := fun m hm => by
    by_cases h0 : 0 < m
    · exact Nat.le_of_lt (h.par m h0 hm)
    · have : m = 0 := by omega
      subst this
      rw [h.root]
      exact Nat.le_refl _
  intro n
  induction n with
  | zero => intro j hn hj; omega
  | succ n ih =>
    intro j hn hj i hi
    obtain ⟨c0, c1, c2, sv, c3, d1, _⟩ := h.el j i hj hi
    rcases d1 (.inl hj) with ⟨h0, rfl⟩ | ⟨m, hm1, hm2, hm3, hm4, hm5, rfl⟩
    · refine ⟨none, 0, [], by rw [h0]; exact c3, (OwX_eq _ _ _ _).2 (.inl ⟨h0, rfl⟩), List.nodup_nil, fun b hb => by cases hb⟩
    · have ihm := ih m (by omega) hm2
      obtain ⟨_, _, _, cs, t, hh⟩ := h.blk m hm2
      have each : ∀ i', i' < (lsA ls m).l.length → ∃ F, OwOne wr cs i' (xAt (lsA ls m).l i') F ∧ Und wr ls m i' F := fun i' hi' => by
        obtain ⟨e0, e1, e2, _⟩ := h.el m i' hm2 hi'
        obtain ⟨c, cp, F, q1, q2, q3⟩ := ihm i' hi'
        rw [Lib.cell_of_heap hh] at e0 e1 e2 q1
        exact ⟨F, ⟨e0, e1, e2, c, cp, q1, q2⟩, q3⟩
      obtain ⟨T, hT⟩ := @_root_.Go.Deep.choose_lt (List Nat) ⟨[]⟩ _ _ each
      have hgT : ∀ i', i' < (lsA ls m).l.length → ((List.range (lsA ls m).l.length).map T).getD i' [] = T i' := fun i' hi' => by
        rw [List.getD_eq_getElem?_getD, List.getElem?_map, List.getElem?_range hi']
        rfl
      have hsz : (lsA ls m).l.length * 4 ≤ cs.size := by
        by_cases h0 : (lsA ls m).l.length = 0
        · omega
        · obtain ⟨_, _, _, c, cp, q, _⟩ := (hT ((lsA ls m).l.length - 1) (by omega)).1
          have := (Array.getElem?_eq_some_iff.1 q).1
          omega
      refine ⟨some ⟨(lsA ls m).g, 0, none⟩, (lsA ls m).c, (lsA ls m).g :: ((List.range (lsA ls m).l.length).map T).flatten, by rw [← hm5]; exact c3, ?_, List.nodup_cons.2 ⟨fun hb => ?_, flat_nodup T _ (fun i' hi' => (hT i' hi').2.1) (fun i1 i2 h1 h2 hne x hx1 hx2 => ?_)⟩, fun b hb => ?_⟩
      · refine (OwX_eq _ _ _ _).2 (.inr ⟨(lsA ls m).g, cs, t, (List.range (lsA ls m).l.length).map T, rfl, hh, by rw [← hm5]; exact hsz, by rw [← hm5]; simp, rfl, fun i' hi' => ?_⟩)
        rw [← hm5] at hi' ⊢
        rw [hgT i' hi']
        exact (hT i' hi').1
      · obtain ⟨G, hG, hb⟩ := List.mem_flatten.1 hb
        obtain ⟨i', hi', rfl⟩ := List.mem_map.1 hG
        have hi' := List.mem_range.1 hi'
        obtain ⟨m', t', a, q1, q2, q3, q4, q5, q6, q7⟩ := (hT i' hi').2.2 _ hb
        have := h.inj m m' hm2 q1 q2
        subst this
        have := upL_le hp t' m hm2
        omega
      · obtain ⟨m1, t1, a1, q1, q2, q3, q4, q5, q6, q7⟩ := (hT i1 h1).2.2 _ hx1
        obtain ⟨m2, t2, a2, r1, r2, r3, r4, r5, r6, r7⟩ := (hT i2 h2).2.2 _ hx2
        have := h.inj m1 m2 q1 r1 (q2.symm.trans r2)
        subst this
        have := upL_apart hp q4 r4 q5 r5 q3 r3 q7 r7
        subst this
        exact hne (q6.symm.trans r6)
      · rcases List.mem_cons.1 hb with rfl | hb
        · exact ⟨m, 0, m, hm2, rfl, hm1, hm2, hm3, hm4, rfl⟩
        · obtain ⟨G, hG, hb⟩ := List.mem_flatten.1 hb
          obtain ⟨i', hi', rfl⟩ := List.mem_map.1 hG
          have hi' := List.mem_range.1 hi'
          obtain ⟨m', t', a, q1, q2, q3, q4, q5, q6, q7⟩ := (hT i' hi').2.2 _ hb
          refine ⟨m', t' + 1, m, q1, q2, hm1, hm2, hm3, hm4, ?_⟩
          rw [upL_add, q7]
          exact q5
/-- The term that was copied. -/
theorem Cq.end (h : Cq w0 wr F0 e v ls ls.length 0 FF kz) : ∃ (c : Option Addr) (cp : Nat), wr.cell? ⟨w0.heap.size + 2, 0, none⟩ = some (.int .i64 e.k) ∧ wr.cell? ⟨w0.heap.size + 2, 1, none⟩ = some (.int .i64 e.n) ∧ wr.cell? ⟨w0.heap.size + 2, 2, none⟩ = some (.string e.s) ∧ wr.cell? ⟨w0.heap.size + 2, 3, none⟩ = some (.slice c e.l.length cp) ∧ NewX wr (w0.heap.size + 2) e c := by
  have hl : 0 < (lsA ls 0).l.length := by rw [h.root]; simp
  obtain ⟨c, cp, F, q1, q2, q3⟩ := h.parts ls.length 0 (by omega) h.pos 0 hl
  obtain ⟨e0, e1, e2, _⟩ := h.el 0 0 h.pos hl
  have hx : xAt (lsA ls 0).l 0 = e := by rw [h.root]; rfl
  have hg : (lsA ls 0).g = w0.heap.size + 2 := by rw [h.root]
  rw [hx] at q1 q2 e0 e1 e2
  rw [hg] at q1 e0 e1 e2
  refine ⟨c, cp, e0, e1, e2, q1, F, q2, q3.1, fun b hb => ?_⟩
  obtain ⟨m, t, a, r1, r2, _⟩ := q3.2 b hb
  rw [r2]
  exact (h.blk m r1).1
end
end Go.Proofs.YtkolflcjkofleaaDoor

namespace Go.Proofs.YtkolflcjkofleaaDoor
open Go.ChangeShapes Go.WideShapes Go.ChangeAt Go.RowKit
set_option linter.unusedVariables false
set_option maxRecDepth 8000
set_option linter.unusedSimpArgs false

/-- Two lists, by where they begin, and how long they are. -/
structure Ky where
  a : Nat
  b : Nat
  n : Nat
def Ky.v (k : Ky) : Value := .agg #[.pointer (some ⟨k.a, 0, none⟩), .pointer (some ⟨k.b, 0, none⟩), .int .i64 k.n]
def Ky.same (k l : Ky) : Bool := k.a == l.a && (k.b == l.b && k.n == l.n)
theorem Ky.same_iff (k l : Ky) : k.same l = true ↔ k = l := by
  obtain ⟨a, b, n⟩ := k
  obtain ⟨c, d, m⟩ := l
  simp [Ky.same]
/-- A block that is a row of cells, not frozen. -/
def Clean (w : World) (b : Nat) : Prop := ∃ cs t, w.heap[b]? = some (.cells cs t (0, 0))
theorem run_ptr_eq (d : Nat) (w : World) (a b : Nat) (ha : Clean w a) (hb : Clean w b) : (Op.equalIn (d + 1) 79 (.pointer (some ⟨a, 0, none⟩)) (.pointer (some ⟨b, 0, none⟩))).run Tryd.prog w = .ok (a == b) w := by
  obtain ⟨i0, hi, hz0, hz1, hz2⟩ := info_parts infoX
  have hsz : i0.size ≠ 0 := by rw [hz1]; decide
  by_cases e : a = b
  · subst e
    simp [Op.equalIn, run_underlying Tryd.underlying79, sizeOf, typeInfo, hi, hsz, run_sameAddr_same]
  · obtain ⟨ca, ta, ha⟩ := ha
    obtain ⟨cb, tb, hb⟩ := hb
    have hne : (⟨a, 0, none⟩ : Addr) ≠ ⟨b, 0, none⟩ := fun h => e (by cases h; rfl)
    simp [Op.equalIn, run_underlying Tryd.underlying79, sizeOf, typeInfo, hi, hsz, run_sameAddr_other w hne ha hb, e]
theorem run_key_eq (w : World) (k l : Ky) (ka : Clean w k.a) (kb : Clean w k.b) (la : Clean w l.a) (lb : Clean w l.b) : (Op.equal 81 k.v l.v).run Tryd.prog w = .ok (k.same l) w := by
  unfold Op.equal Op.maxDepth Ky.v
  rw [run_equalIn_struct w 9999 81 _ _ (by kernel_rfl) (by kernel_rfl)]
  have hf : (Tryd.prog.fieldsOf 81).toList.map (fun f => (f.name, f.type, f.offset)) = [("one", 79, 0), ("other", 79, 1), ("size", 3, 2)] := by kernel_rfl
  have hlen := congrArg List.length hf
  rw [List.length_map] at hlen
  generalize (Tryd.prog.fieldsOf 81).toList = fs at *
  match fs, hlen, hf with
  | [f0, f1, f2], _, hf =>
    simp only [List.map_cons, List.map_nil, List.cons.injEq, Prod.mk.injEq] at hf
    obtain ⟨⟨n0, t0, o0⟩, ⟨n1, t1, o1⟩, ⟨n2, t2, o2⟩, _⟩ := hf
    have p0 : ∀ a b c : Value, (part 79 #[.pointer (some ⟨k.a, 0, none⟩), b, c] 0).run Tryd.prog w = .ok (.pointer (some ⟨k.a, 0, none⟩)) w := fun a b c => by kernel_rfl
    have q0 : (part 79 #[.pointer (some ⟨k.a, 0, none⟩), .pointer (some ⟨k.b, 0, none⟩), .int .i64 k.n] 0).run Tryd.prog w = .ok (.pointer (some ⟨k.a, 0, none⟩)) w := by kernel_rfl
    have q1 : (part 79 #[.pointer (some ⟨k.a, 0, none⟩), .pointer (some ⟨k.b, 0, none⟩), .int .i64 k.n] 1).run Tryd.prog w = .ok (.pointer (some ⟨k.b, 0, none⟩)) w := by kernel_rfl
    have q2 : (part 3 #[.pointer (some ⟨k.a, 0, none⟩), .pointer (some ⟨k.b, 0, none⟩), .int .i64 k.n] 2).run Tryd.prog w = .ok (.int .i64 k.n) w := by kernel_rfl
    have r0 : (part 79 #[.pointer (some ⟨l.a, 0, none⟩), .pointer (some ⟨l.b, 0, none⟩), .int .i64 l.n] 0).run Tryd.prog w = .ok (.pointer (some ⟨l.a, 0, none⟩)) w := by kernel_rfl
    have r1 : (part 79 #[.pointer (some ⟨l.a, 0, none⟩), .pointer (some ⟨l.b, 0, none⟩), .int .i64 l.n] 1).run Tryd.prog w = .ok (.pointer (some ⟨l.b, 0, none⟩)) w := by kernel_rfl
    have r2 : (part 3 #[.pointer (some ⟨l.a, 0, none⟩), .pointer (some ⟨l.b, 0, none⟩), .int .i64 l.n] 2).run Tryd.prog w = .ok (.int .i64 l.n) w := by kernel_rfl
    have s0 := run_ptr_eq 9998 w k.a l.a ka la
    have s1 := run_ptr_eq 9998 w k.b l.b kb lb
    have s2 := run_equalIn_int w 9998 3 .i64 .i64 (k.n : Int) (l.n : Int) Tryd.underlying3
    clear p0
    unfold Ky.same
    simp only [Op.eqFields, n0, n1, n2, t0, t1, t2, o0, o1, o2, Sem.run_bind, Sem.run_ite, q0, q1, q2, r0, r1, r2, Result.andThen_ok, s0, s1, s2]
    have en : ((k.n : Int) == (l.n : Int)) = (k.n == l.n) := by rw [Bool.eq_iff_iff, beq_iff_eq, beq_iff_eq]; omega
    rw [en]
    cases k.a == l.a <;> cases k.b == l.b <;> cases k.n == l.n <;> simp
/-- The entries of a map of keys. -/
def esOf (ks : List Ky) (born : Nat) : List MapEntry := match ks with
  | [] => []
  | k :: r => { key := k.v, val := .agg #[], born := born } :: esOf r (born + 1)
def hasK (ks : List Ky) (k : Ky) : Bool := ks.any (fun l => k.same l)
theorem hasK_iff (ks : List Ky) (k : Ky) : hasK ks k = true ↔ k ∈ ks := by
  unfold hasK
  rw [List.any_eq_true]
  constructor
  · rintro ⟨l, hl, h⟩; rw [(Ky.same_iff _ _).1 h]; exact hl
  · intro h; exact ⟨k, h, (Ky.same_iff _ _).2 rfl⟩
theorem run_asking (w : World) (k : Ky) (ka : Clean w k.a) (kb : Clean w k.b) : ∀ (ks : List Ky) (born i : Nat), (∀ l ∈ ks, Clean w l.a ∧ Clean w l.b) → ∃ r, (Instr.findAsking 81 k.v (esOf ks born) i).run Tryd.prog w = .ok r w ∧ ((hasK ks k = false ∧ r = none) ∨ (hasK ks k = true ∧ ∃ j, r = some (j, .agg #[]))) := by
  intro ks
  induction ks with
  | nil => intro born i _; exact ⟨none, rfl, .inl ⟨rfl, rfl⟩⟩
  | cons l r ih =>
    intro born i hc
    obtain ⟨la, lb⟩ := hc l List.mem_cons_self
    have he := run_key_eq w k l ka kb la lb
    obtain ⟨q, hq, hr⟩ := ih (born + 1) (i + 1) (fun x hx => hc x (List.mem_cons_of_mem _ hx))
    have hh : hasK (l :: r) k = (k.same l || hasK r k) := by simp [hasK]
    cases hs : k.same l with
    | true =>
      rw [hs] at he
      exact ⟨some (i, .agg #[]), by simp [esOf, Instr.findAsking, he], .inr ⟨by rw [hh, hs]; rfl, i, rfl⟩⟩
    | false =>
      rw [hs] at he
      exact ⟨q, by simp [esOf, Instr.findAsking, he, hq], by rw [hh, hs, Bool.false_or]; exact hr⟩
theorem find_struct (w : World) (k : Ky) (ks : List Ky) (born : Nat) : (Instr.findKey 81 k.v (esOf ks born)).run Tryd.prog w = (Instr.findAsking 81 k.v (esOf ks born) 0).run Tryd.prog w := by
  cases ks with
  | nil => simp [esOf, Instr.findKey, Instr.findAsking, run_underlying Tryd.underlying81, Instr.findNow]
  | cons l r => simp [esOf, Instr.findKey, run_underlying Tryd.underlying81, Instr.findNow, Instr.sameNow, Ky.v]
/-- Block b is a map of these keys. -/
def IsMp (w : World) (b : Nat) (ks : List Ky) : Prop := w.heap[b]? = some (.map (esOf ks 0).toArray ks.length)
theorem run_key_ok (em : Bool) (k : Ky) (w : World) : (Instr.checkKey em 10000 81 k.v).run Tryd.prog w = .ok () w := by
  cases em <;> kernel_rfl
theorem run_look {w : World} {b : Nat} {ks : List Ky} (h : IsMp w b ks) (k : Ky) (ka : Clean w k.a) (kb : Clean w k.b) (hc : ∀ l ∈ ks, Clean w l.a ∧ Clean w l.b) : (Instr.lookup 76 (.map (some b)) k.v true).run Tryd.prog w = .ok (.tuple #[.agg #[], .bool (hasK ks k)]) w := by
  obtain ⟨r, hr, hh⟩ := run_asking w k ka kb ks 0 0 hc
  have hf := (find_struct w k ks 0).trans hr
  have hz : (zeroValue 82).run Tryd.prog w = .ok (.agg #[]) w := by kernel_rfl
  rcases hh with ⟨h1, rfl⟩ | ⟨h1, j, rfl⟩
  · simp [Instr.lookup, run_underlying Tryd.underlying76, MapKept.run_getObj_map h, run_key_ok, hf, hz, h1, Result.andThen]
  · simp [Instr.lookup, run_underlying Tryd.underlying76, MapKept.run_getObj_map h, run_key_ok, hf, h1, Result.andThen]
theorem esOf_snoc (ks : List Ky) (k : Ky) : ∀ born, esOf (ks ++ [k]) born = esOf ks born ++ [{ key := k.v, val := .agg #[], born := born + ks.length }] := by
  induction ks with
  | nil => intro born; rfl
  | cons l r ih => intro born; simp only [List.cons_append, esOf, ih, List.length_cons]; congr 4; omega
theorem run_put {w : World} {b : Nat} {ks : List Ky} (h : IsMp w b ks) (k : Ky) (ka : Clean w k.a) (kb : Clean w k.b) (hc : ∀ l ∈ ks, Clean w l.a ∧ Clean w l.b) (hn : hasK ks k = false) : ∃ w', (Instr.mapUpdate 76 (.map (some b)) k.v (.agg #[])).run Tryd.prog w = .ok () w' ∧ IsMp w' b (ks ++ [k]) ∧ w'.heap.size = w.heap.size ∧ (∀ g, g ≠ b → w'.heap[g]? = w.heap[g]?) ∧ w'.os = w.os ∧ w'.tape = w.tape ∧ w'.output = w.output := by
  obtain ⟨r, hr, hh⟩ := run_asking w k ka kb ks 0 0 hc
  have hf := (find_struct w k ks 0).trans hr
  rcases hh with ⟨h1, rfl⟩ | ⟨h1, j, rfl⟩
  · have hrun : (Instr.mapUpdate 76 (.map (some b)) k.v (.agg #[])).run Tryd.prog w = .ok () { w with heap := w.heap.setIfInBounds b (.map ((esOf ks 0).toArray.push { key := k.v, val := .agg #[], born := ks.length }) (ks.length + 1)) } := by
      simp [Instr.mapUpdate, run_underlying Tryd.underlying76, MapKept.run_getObj_map h, run_key_ok, hf, MapKept.run_setObj_map _ h, Result.andThen]
    refine ⟨_, hrun, ?_, by simp, fun g hg => ?_, rfl, rfl, rfl⟩
    · have hl : b < w.heap.size := (Array.getElem?_eq_some_iff.1 h).1
      unfold IsMp
      simp [hl, esOf_snoc]
    · simp [Array.getElem?_setIfInBounds, Ne.symm hg]
  · rw [hn] at h1; cases h1
end Go.Proofs.YtkolflcjkofleaaDoor

namespace Go.Proofs.YtkolflcjkofleaaDoor
open Go.ChangeShapes Go.WideShapes Go.ChangeAt Go.RowKit
set_option linter.unusedVariables false
set_option maxRecDepth 8000
set_option linter.unusedSimpArgs false

def Kz.key (k : Kz) : Value := .agg #[.pointer (some ⟨k.a, 0, none⟩), .int .i64 k.n]
theorem run_keyz_ne (w : World) (k l : Kz) (ka : Cln w k.a) (la : Cln w l.a) (hne : k.a ≠ l.a) : (Op.equal 112 k.key l.key).run Tryd.prog w = .ok false w := by
  unfold Op.equal Op.maxDepth Kz.key
  rw [run_equalIn_struct w 9999 112 _ _ (by kernel_rfl) (by kernel_rfl)]
  have hf : (Tryd.prog.fieldsOf 112).toList.map (fun f => (f.name, f.type, f.offset)) = [("first", 79, 0), ("size", 3, 1)] := by kernel_rfl
  have hlen := congrArg List.length hf
  rw [List.length_map] at hlen
  generalize (Tryd.prog.fieldsOf 112).toList = fs at *
  match fs, hlen, hf with
  | [f0, f1], _, hf =>
    simp only [List.map_cons, List.map_nil, List.cons.injEq, Prod.mk.injEq] at hf
    obtain ⟨⟨n0, t0, o0⟩, ⟨n1, t1, o1⟩, _⟩ := hf
    have q0 : (part 79 #[.pointer (some ⟨k.a, 0, none⟩), .int .i64 k.n] 0).run Tryd.prog w = .ok (.pointer (some ⟨k.a, 0, none⟩)) w := by kernel_rfl
    have r0 : (part 79 #[.pointer (some ⟨l.a, 0, none⟩), .int .i64 l.n] 0).run Tryd.prog w = .ok (.pointer (some ⟨l.a, 0, none⟩)) w := by kernel_rfl
    have s0 := run_ptr_eq 9998 w k.a l.a ka la
    rw [beq_eq_false_iff_ne.2 hne] at s0
    simp only [Op.eqFields, n0, n1, t0, t1, o0, o1, Sem.run_bind, Sem.run_ite, q0, r0, Result.andThen_ok, s0]
    simp
def esZ : List Kz → Nat → List MapEntry
  | [], _ => []
  | k :: r, born => { key := k.key, val := .int .i64 k.v, born := born } :: esZ r (born + 1)
theorem esZ_snoc (ks : List Kz) (k : Kz) : ∀ born, esZ (ks ++ [k]) born = esZ ks born ++ [{ key := k.key, val := .int .i64 k.v, born := born + ks.length }] := by
  induction ks with
  | nil => intro born; rfl
  | cons l r ih => intro born; simp only [List.cons_append, esZ, ih, List.length_cons]; congr 4; omega
/-- Block b is a map of these lists. -/
def IsMz (w : World) (b : Nat) (kz : List Kz) : Prop := w.heap[b]? = some (.map (esZ kz 0).toArray kz.length)
theorem IsMz.later {w w' : World} {b : Nat} {kz : List Kz} (h : IsMz w b kz) (hb : Below w.heap.size w w') : IsMz w' b kz := row_keep h hb
theorem run_askz (w : World) (k : Kz) (ka : Cln w k.a) : ∀ (kz : List Kz) (born i : Nat), (∀ l ∈ kz, Cln w l.a ∧ k.a ≠ l.a) → (Instr.findAsking 112 k.key (esZ kz born) i).run Tryd.prog w = .ok none w := by
  intro kz
  induction kz with
  | nil => intro born i _; rfl
  | cons l r ih =>
    intro born i hc
    obtain ⟨la, ln⟩ := hc l List.mem_cons_self
    have he := run_keyz_ne w k l ka la ln
    have hr := ih (born + 1) (i + 1) (fun x hx => hc x (List.mem_cons_of_mem _ hx))
    simp [esZ, Instr.findAsking, he, hr]
theorem find_z (w : World) (k : Kz) (kz : List Kz) (born : Nat) : (Instr.findKey 112 k.key (esZ kz born)).run Tryd.prog w = (Instr.findAsking 112 k.key (esZ kz born) 0).run Tryd.prog w := by
  cases kz with
  | nil => simp [esZ, Instr.findKey, Instr.findAsking, run_underlying Tryd.underlying112, Instr.findNow]
  | cons l r => simp [esZ, Instr.findKey, run_underlying Tryd.underlying112, Instr.findNow, Instr.sameNow, Kz.key]
theorem run_keyz_ok (em : Bool) (k : Kz) (w : World) : (Instr.checkKey em 10000 112 k.key).run Tryd.prog w = .ok () w := by
  cases em <;> kernel_rfl
theorem run_lookz {w : World} {b : Nat} {kz : List Kz} (h : IsMz w b kz) (k : Kz) (ka : Cln w k.a) (hc : ∀ l ∈ kz, Cln w l.a ∧ k.a ≠ l.a) : (Instr.lookup 109 (.map (some b)) k.key true).run Tryd.prog w = .ok (.tuple #[.int .i64 0, .bool false]) w := by
  have hf := (find_z w k kz 0).trans (run_askz w k ka kz 0 0 hc)
  have hz : (zeroValue 3).run Tryd.prog w = .ok (.int .i64 0) w := by kernel_rfl
  simp [Instr.lookup, run_underlying Tryd.underlying109, MapKept.run_getObj_map h, run_keyz_ok, hf, hz, Result.andThen]
theorem run_putz {w : World} {b : Nat} {kz : List Kz} (h : IsMz w b kz) (k : Kz) (ka : Cln w k.a) (hc : ∀ l ∈ kz, Cln w l.a ∧ k.a ≠ l.a) : ∃ w', (Instr.mapUpdate 109 (.map (some b)) k.key (.int .i64 k.v)).run Tryd.prog w = .ok () w' ∧ IsMz w' b (kz ++ [k]) ∧ w.grownBy w' (some b) := by
  have hf := (find_z w k kz 0).trans (run_askz w k ka kz 0 0 hc)
  have hrun : (Instr.mapUpdate 109 (.map (some b)) k.key (.int .i64 k.v)).run Tryd.prog w = .ok () { w with heap := w.heap.setIfInBounds b (.map ((esZ kz 0).toArray.push { key := k.key, val := .int .i64 k.v, born := kz.length }) (kz.length + 1)) } := by
    simp [Instr.mapUpdate, run_underlying Tryd.underlying109, MapKept.run_getObj_map h, run_keyz_ok, hf, MapKept.run_setObj_map _ h, Result.andThen]
  refine ⟨_, hrun, ?_, rfl, rfl, rfl, by simp, fun g _ hg => ?_⟩
  · have hl : b < w.heap.size := (Array.getElem?_eq_some_iff.1 h).1
    unfold IsMz
    simp [hl, esZ_snoc]
  · have hg : g ≠ b := fun e => hg (by rw [e])
    simp [Array.getElem?_setIfInBounds, Ne.symm hg]
theorem run_mkz (w : World) : (Instr.makeMap 109 none).run Tryd.prog w = .ok (.map (some w.heap.size)) (w.alloc (.map #[] 0)) := by kernel_rfl
set_option maxHeartbeats 4000000 in
theorem weight_any (e : Ex) (a : Option Addr) (n cap : Nat) (w : World) (hn : e.l.length = n) (hm : n ≤ 1048576) (hz : ∀ i, i < n → (xAt e.l i).s.size ≤ 1048576) (hr : RdX w 0 e a) : Calls Tryd.prog 70 #[.slice a n cap] w fun r w' => (∃ k : Int, r = .returned (.int .i64 k)) ∧ Below w.heap.size w w' := by
  have RD := hide (fun i (h : i < n) => rd_at hr (i := i) (by omega))
  have ZZ := hide hz
  clear hr hz
  go_enter Tryd.func70, Tryd.ntmps70
  go_wp2
  go_loopw [3, 10] (fun v i wr => ∃ (k : Nat) (t : Int), k ≤ n ∧ i = .int .i64 k ∧ v = .int .i64 t ∧ Below w.heap.size w wr) (fun _ i _ => n - (intOf i).toNat)
  case atStart => exact ⟨0, _, Nat.zero_le _, rfl, rfl, Below.refl _ _⟩
  case round =>
    obtain ⟨k, t, hk, rfl, rfl, hbel⟩ := hrel
    by_cases hlt : k < n
    · obtain ⟨p, po, rfl, hp, o1⟩ := unhide RD k hlt
      obtain ⟨e0, e1, e2, c, cp, e3, e4⟩ := o1
      have c0 := (hbel.cell (p := ⟨p, po + k * 4, none⟩) hp).trans e0
      have c1 := (hbel.cell (p := ⟨p, po + k * 4 + 1, none⟩) hp).trans e1
      have c2 := (hbel.cell (p := ⟨p, po + k * 4 + 2, none⟩) hp).trans e2
      have c3 := (hbel.cell (p := ⟨p, po + k * 4 + 3, none⟩) hp).trans e3
      have hkn : ¬ ((n : Int) ≤ (k : Int)) := by omega
      have hs := unhide ZZ k hlt
      have B1 := hide (hbel.alloc hbel.size (.cells #[.int .i64 (xAt e.l k).k, .int .i64 (xAt e.l k).n, .string (xAt e.l k).s, .slice c (xAt e.l k).l.length cp] 26))
      clear e0 e1 e2 e3 e4 hbel hp
      generalize (xAt e.l k).k = ek at *
      generalize (xAt e.l k).n = en at *
      generalize (xAt e.l k).s = es at *
      generalize (xAt e.l k).l.length = el at *
      go_wp2
      go_roundw
      case rel => exact ⟨k + 1, _, by omega, by go_num, rfl, unhide B1⟩
      case measure => simp [intOf]; omega
    · go_wp2
      (first | go_ret2 | go_ret | skip)
      exact ⟨⟨_, rfl⟩, hbel⟩
end Go.Proofs.YtkolflcjkofleaaDoor

namespace Go.Proofs.YtkolflcjkofleaaDoor
open Go.ChangeShapes Go.WideShapes Go.ChangeAt Go.RowKit
set_option linter.unusedVariables false
set_option maxRecDepth 8000
set_option linter.unusedSimpArgs false

theorem infoTm : (Tryd.prog.info? 66).map (fun i => (i.zero, i.size, i.bytes)) = some (some .nilIface, 1, 16) := by kernel_rfl
theorem own_below {w w' : World} {B n m : Nat} {t : TypeId} {v : Value} {cs : List Value} (h : w.ownsRow B t m v n cs) (hb : Below w.heap.size w w') : w'.ownsRow B t m v n cs := by
  obtain ⟨h1, h2 | ⟨g, cap, cur, e, hg, hh, r⟩⟩ := h
  · exact ⟨h1, .inl h2⟩
  · exact ⟨h1, .inr ⟨g, cap, cur, e, hg, (hb.block g (Array.getElem?_eq_some_iff.1 hh).1).trans hh, r⟩⟩
/-- Whether the first k of these are all right. -/
def okL (l : List Ex) : Bool := l.all (okF 6 false)
theorem okL_take {l : List Ex} {k : Nat} (h : k < l.length) : okL (l.take (k + 1)) = (okL (l.take k) && okF 6 false (xAt l k)) := by
  unfold okL
  rw [List.take_add_one, List.getElem?_eq_getElem h, xAt_get h]
  simp only [Option.toList_some, List.all_append, List.all_cons, List.all_nil, Bool.and_true]
theorem okL_no {l : List Ex} {k : Nat} (h : k < l.length) (hk : okF 6 false (xAt l k) = false) : okL l = false := by
  unfold okL
  cases hh : l.all (okF 6 false) with
  | false => rfl
  | true =>
    rw [List.all_eq_true] at hh
    rw [hh _ (xAt_mem h)] at hk
    cases hk
theorem tvs_take {l : List Ex} {k : Nat} (h : k < l.length) : (l.take (k + 1)).map tv = (l.take k).map tv ++ [tv (xAt l k)] := by
  rw [List.take_add_one, List.getElem?_eq_getElem h, xAt_get h]
  simp only [Option.toList_some, List.map_append, List.map_cons, List.map_nil]
/-- What termsOf answers. -/
def TsR (l : List Ex) (w : World) (r : Ending) (w' : World) : Prop := ∃ v, r = .returned (.tuple #[v, .bool (okL l)]) ∧ (okL l = true → w'.ownsRow w.heap.size 66 1 v l.length (l.map tv)) ∧ Below w.heap.size w w'
set_option maxHeartbeats 8000000 in
theorem termsI_any (l : List Ex) (a : Option Addr) (n cap : Nat) (w : World) (hn : l.length = n) (hm : n ≤ 4194304) (hz : ∀ i, i < n → (xAt l i).sz ≤ 1048576) (hr : RdX w 0 ⟨0, 0, E0, l⟩ a) (ht : TabK w) : Calls Tryd.prog 58 #[.slice a n cap] w (TsR l w) := by
  obtain ⟨i0, hi, hz0, hz1, hz2⟩ := info_parts infoTm
  have FN := hide (fun (r : Ending) (w' : World) (v : Value) (q : Bool) (h0 : okL l = q) (h : r = .returned (.tuple #[v, .bool q])) (h1 : q = true → w'.ownsRow w.heap.size 66 1 v n (l.map tv)) (h2 : Below w.heap.size w w') => (show TsR l w r w' from ⟨v, by rw [h, h0], fun e => by rw [hn]; exact h1 (h0.symm.trans e), h2⟩))
  have TM := hide (fun i (hi : i < n) (c : Option Addr) (cp : Nat) wr (h : RdX wr 0 (xAt l i) c) (hb : Below w.heap.size w wr) => term_all 6 (by omega) (xAt l i) c cp wr h (hz i hi) (ht.next hb))
  unfold TermR at TM
  have RD := hide (fun i (h : i < n) => rd_at hr (i := i) (by show i < l.length; omega))
  have OT := hide (fun k (h : k < n) => okL_take (l := l) (k := k) (by omega))
  have ON := hide (fun k (h : k < n) => okL_no (l := l) (k := k) (by omega))
  have TT := hide (fun k (h : k < n) => tvs_take (l := l) (k := k) (by omega))
  have EN := hide (show okL (l.take n) = okL l ∧ (l.take n).map tv = l.map tv by rw [← hn, List.take_length]; exact ⟨rfl, rfl⟩)
  generalize TsR l w = R at *
  clear hr hz ht hn
  go_enter Tryd.func58, Tryd.ntmps58
  go_wp2
  go_loopw [4, 11] (fun v i wr => ∃ k : Nat, k ≤ n ∧ i = .int .i64 k ∧ okL (l.take k) = true ∧ wr.ownsRow w.heap.size 66 1 v k ((l.take k).map tv) ∧ Below w.heap.size w wr) (fun _ i _ => n - (intOf i).toNat)
  case atStart => exact ⟨0, Nat.zero_le _, rfl, by simp [okL], World.ownsRow_nil _ _ _ _, Below.refl _ _⟩
  case round =>
    obtain ⟨k, hk, rfl, hok, hown, hbel⟩ := hrel
    by_cases hlt : k < n
    · obtain ⟨p, po, rfl, hp, o1⟩ := unhide RD k hlt
      obtain ⟨e0, e1, e2, c, cp, e3, e4⟩ := o1
      have c0 := (hbel.cell (p := ⟨p, po + k * 4, none⟩) hp).trans e0
      have c1 := (hbel.cell (p := ⟨p, po + k * 4 + 1, none⟩) hp).trans e1
      have c2 := (hbel.cell (p := ⟨p, po + k * 4 + 2, none⟩) hp).trans e2
      have c3 := (hbel.cell (p := ⟨p, po + k * 4 + 3, none⟩) hp).trans e3
      have T1 := hide (unhide OT k hlt)
      have T2 := hide (unhide TT k hlt)
      have T3 := hide (unhide ON k hlt)
      have X0 := hide (show RdX wr 0 (xAt l k) c from e4.later hbel)
      have TK := hide (unhide TM k hlt c cp)
      have OK := hide hok
      have OW := hide hown
      have BL := hide hbel
      unfold Ex.cs at TK
      have hkn : ¬ ((n : Int) ≤ (k : Int)) := by omega
      clear e0 e1 e2 e3 e4 hok hown hbel hp
      obtain ⟨tt, xx, ett⟩ := tv_if (xAt l k)
      rw [ett] at TK T2
      clear ett
      generalize (xAt l k).k = ek at *
      generalize (xAt l k).n = en at *
      generalize (xAt l k).s = es at *
      generalize (xAt l k).l.length = el at *
      have hb1 := below_new wr (.cells #[.int .i64 ek, .int .i64 en, .string es, .slice c el cp] 26)
      have G1 := hide (show (wr.alloc (.cells #[.int .i64 ek, .int .i64 en, .string es, .slice c el cp] 26)).heap[wr.heap.size]? = some (.cells #[.int .i64 ek, .int .i64 en, .string es, .slice c el cp] 26 (0, 0)) from Array.getElem?_push_size)
      have B1 := hide ((unhide BL).trans (hb1.mono (unhide BL).size))
      have C1 := hide (unhide TK _ ((unhide X0).later hb1) (unhide B1))
      have O1 := hide (own_below (unhide OW) hb1)
      clear hb1 TK X0 OW BL
      go_wp2_with (refine wpList_load_row rfl 26 _ rfl wr.heap.size rfl 26 #[.int .i64 ek, .int .i64 en, .string es, .slice c el cp] (0, 0) _ (unhide G1) Tryd.underlying26 rfl (by kernel_rfl) ?_)
      generalize wr.alloc (.cells #[.int .i64 ek, .int .i64 en, .string es, .slice c el cp] 26) = w1 at *
      refine (unhide C1).mono ?_
      rintro r w2 ⟨tk, rfl, htk, hb2⟩
      have B2 := hide ((unhide B1).trans (hb2.mono (unhide B1).size))
      have O2 := hide (own_below (unhide O1) hb2)
      have HT := hide htk
      clear htk hb2 B1 O1 C1 G1 c0 c1 c2 c3
      generalize hq : okF 6 false (xAt l k) = q at *
      cases q with
      | false =>
        have F := unhide T3 rfl
        go_wp2
        (first | go_ret2 | go_ret | skip)
        exact unhide FN _ _ _ false F rfl (fun h => by cases h) (unhide B2)
      | true =>
        have etk := unhide HT rfl
        rw [etk]
        clear HT etk tk
        have T1c := hide (show ∀ u ∈ ([.iface tt xx] : List Value), u.oneCell' = true from fun u hu => by rw [List.mem_singleton.1 hu]; rfl)
        have hb3 := below_new w2 (.cells #[.iface tt xx] 66)
        have B3 := hide ((unhide B2).trans (hb3.mono (unhide B2).size))
        have O3 := hide (own_below (unhide O2) hb3)
        have N3 := hide (cell_newF w2 #[.iface tt xx] 66)
        have E1 := hide (show okL (l.take (k + 1)) = true by rw [unhide T1, unhide OK]; rfl)
        have WB := hide (show ∀ g, u4.ownBlock = some g → w.heap.size ≤ g from fun g hg => (World.ownsRow.lt (unhide O3) g hg).1)
        clear hb3 B2 O2 T1 T3 OK
        go_wp2_with (at_builtin; go_must (refine wpList_append_own _ rfl (.tmp 22) (.tmp 24) 91 rfl w.heap.size 66 i0 .nilIface 1 16 Tryd.underlying91 hi hz0 hz1 hz2 rfl (by decide) u4 k ((l.take k).map tv) rfl (unhide O3) ⟨w2.heap.size, 0, none⟩ 1 1 [.iface tt xx] rfl rfl (unhide N3) (unhide T1c) (by unfold maxLen; omega) (by omega) (unhide B3).size ?_; intro v4 w4 hown4 hgrow4 _; have O4 := hide hown4; have B4 := hide ((unhide B3).grown hgrow4 (unhide B3).size (unhide WB)); clear hown4 hgrow4))
        go_roundw
        case rel => exact ⟨k + 1, by omega, by go_num, unhide E1, by rw [unhide T2]; exact unhide O4, unhide B4⟩
        case measure => simp [intOf]; omega
    · obtain rfl : k = n := by omega
      have E1 := (unhide EN).1.symm.trans hok
      rw [(unhide EN).2] at hown
      have OW := hide hown
      have BL := hide hbel
      clear hok hown hbel
      go_wp2
      (first | go_ret2 | go_ret | skip)
      exact unhide FN _ _ _ true E1 rfl (fun _ => unhide OW) (unhide BL)
end Go.Proofs.YtkolflcjkofleaaDoor

namespace Go.Proofs.YtkolflcjkofleaaDoor
open Go.ChangeShapes Go.WideShapes Go.ChangeAt Go.RowKit
set_option linter.unusedVariables false
set_option maxRecDepth 8000
set_option linter.unusedSimpArgs false

theorem setCell_id {w : World} {g o : Nat} {v : Value} (hc : Cln w g) (h : w.cell? ⟨g, o, none⟩ = some v) : w.setCell ⟨g, o, none⟩ v = w := by
  obtain ⟨cs, t, hh⟩ := hc
  rw [Lib.cell_of_heap hh] at h
  have he : (w.setCell ⟨g, o, none⟩ v).heap = w.heap := by
    apply Array.ext_getElem?
    intro i
    by_cases hi : i = g
    · subst hi
      rw [heap_setCell_same w i o cs t v hh, hh]
      congr 2
      apply Array.ext_getElem?
      intro j
      by_cases hj : j = o
      · subst hj
        have hl := (Array.getElem?_eq_some_iff.1 h).1
        rw [h]
        simp [hl]
      · exact Array.getElem?_setIfInBounds_ne (Ne.symm hj)
    · exact heap_setCell_other w ⟨g, o, none⟩ i v hi
  unfold World.setCell at he ⊢
  cases w
  simp only at he ⊢
  rw [he]
theorem own_cell {w : World} {B n cap g : Nat} {t : TypeId} {cs : List Value} (h : w.ownsRow B t 1 (.slice (some ⟨g, 0, none⟩) n cap) n cs) {i : Nat} (hi : i < n) : w.cell? ⟨g, i, none⟩ = cs[i]? := by
  obtain ⟨_, ⟨e, _⟩ | ⟨g', cap', cur, e, q1, q2, q3, q4, q5, q6⟩⟩ := h
  · cases e
  · cases e
    rw [Lib.cell_of_heap q2, ← q6, List.getElem?_take_of_lt (by omega)]
    simp
theorem own_formC {w : World} {B n m : Nat} {t : TypeId} {v : Value} {cs : List Value} (h : w.ownsRow B t m v n cs) (hn : 0 < n) : ∃ g cap, v = .slice (some ⟨g, 0, none⟩) n cap := by
  obtain ⟨_, ⟨e, e2⟩ | ⟨g, cap, cur, e, _⟩⟩ := h
  · omega
  · exact ⟨g, cap, e⟩
theorem ls_at {ls : List Ls} {j : Nat} (h : j < ls.length) : (ls.map Ls.v)[j]? = some (lsA ls j).v := by
  rw [List.getElem?_map, List.getElem?_eq_getElem h]
  unfold lsA
  rw [List.getD_eq_getElem?_getD, List.getElem?_eq_getElem h]
  rfl
theorem Cq.grow {w0 w5 w6 w8 : World} {F0 : List Nat} {e : Ex} {ls : List Ls} {A I gl cl bk cap6 g8 cap8 kv : Nat} {FF : Nat → Nat → List Nat} {kz : List Kz} {cs0 : Array Value} {t0 : TypeId} {Fs : List (List Nat)}
    (h : Cq w0 w5 F0 e (.slice (some ⟨gl, 0, none⟩) ls.length cl) ls A I FF kz) (hA : A < ls.length) (hI : I < (lsA ls A).l.length) (hne : (xAt (lsA ls A).l I).l ≠ []) (hF : FF A I = bk :: Fs.flatten) (hFs : Fs.length = (xAt (lsA ls A).l I).l.length)
    (hh0 : w0.heap[bk]? = some (.cells cs0 t0 (0, 0))) (hsz : (xAt (lsA ls A).l I).l.length * 4 ≤ cs0.size) (hch : ∀ i, i < (xAt (lsA ls A).l I).l.length → OwOne w0 cs0 i (xAt (xAt (lsA ls A).l I).l i) (Fs.getD i []))
    (own6 : w6.ownsRow (w0.heap.size + 2) 26 4 (.slice (some ⟨w5.heap.size, 0, none⟩) (xAt (lsA ls A).l I).l.length cap6) (xAt (lsA ls A).l I).l.length (cs0.toList.take ((xAt (lsA ls A).l I).l.length * 4))) (hb6 : Below w5.heap.size w5 w6)
    (own8 : w8.ownsRow (w0.heap.size + 2) 24 1 (.slice (some ⟨g8, 0, none⟩) (ls.length + 1) cap8) (ls.length + 1) (ls.map Ls.v ++ [.slice (some ⟨w5.heap.size, 0, none⟩) (xAt (lsA ls A).l I).l.length cap6])) (o : Obj)
    (hgr : ((w6.setCell ⟨(lsA ls A).g, I * 4 + 3, none⟩ (.slice (some ⟨w5.heap.size, 0, none⟩) (xAt (lsA ls A).l I).l.length cap6)).alloc o).grownBy w8 (some gl)) (hwh : gl = g8 ∨ w6.heap.size ≤ g8) :
    Cq w0 w8 F0 e (.slice (some ⟨g8, 0, none⟩) (ls.length + 1) cap8) (ls ++ [⟨w5.heap.size, cap6, (xAt (lsA ls A).l I).l, A, I⟩]) A (I + 1) (fun j i => if j = ls.length then Fs.getD i [] else FF j i) (kz ++ [⟨bk, (xAt (lsA ls A).l I).l.length, kv⟩]) ∧ ∀ kk, IsMz w5 (w0.heap.size + 4) kk → IsMz w8 (w0.heap.size + 4) kk := by
  have h6 := h.later hb6
  obtain ⟨q1, q2, q3, _⟩ := h.blk A hA
  have hgl : gl < w5.heap.size := (World.ownsRow.lt h.own gl rfl).2
  have hgl2 : w0.heap.size + 2 ≤ gl := (World.ownsRow.lt h.own gl rfl).1
  have hag : (lsA ls A).g ≠ gl := fun q => q2 (by rw [q]; rfl)
  have hzA := h.glt hA
  have hs6 : w5.heap.size < w6.heap.size := (World.ownsRow.lt own6 _ rfl).2
  obtain ⟨cur, hcur, hcz, _, hcc⟩ := row_take own6
  generalize hv : Value.slice (some ⟨w5.heap.size, 0, none⟩) (xAt (lsA ls A).l I).l.length cap6 = nv at *
  have hz7 : ((w6.setCell ⟨(lsA ls A).g, I * 4 + 3, none⟩ nv).alloc o).heap.size = w6.heap.size + 1 := by simp
  have keep : ∀ q, q < w6.heap.size → q ≠ (lsA ls A).g → gl ≠ q → w8.heap[q]? = w6.heap[q]? := fun q hq n1 n2 => by
    rw [hgr.block q (by omega) (fun e => n2 (by cases e; rfl)), (below_new (w6.setCell ⟨(lsA ls A).g, I * 4 + 3, none⟩ nv) o).block q (by simpa using hq)]
    exact heap_setCell_other w6 ⟨(lsA ls A).g, I * 4 + 3, none⟩ q nv n1
  have hb7 : Below w0.heap.size w0 ((w6.setCell ⟨(lsA ls A).g, I * 4 + 3, none⟩ nv).alloc o) := (h6.bel.setCell (p := ⟨(lsA ls A).g, I * 4 + 3, none⟩) (by show w0.heap.size ≤ (lsA ls A).g; omega) nv).alloc (by have := h6.bel.size; simpa using this) o
  refine ⟨h6.more hA hI hne hF hFs (z := ⟨w5.heap.size, cap6, (xAt (lsA ls A).l I).l, A, I⟩) rfl rfl rfl (fun j hj => h.glt hj) (fun q => by simp [Value.ownBlock] at q; omega) (by have := h.lt; exact this) hcur (fun i hi => ?_) (hb7.grown hgr hb7.size (fun k e => by cases e; omega)) (by have := hgr.size; omega) (fun q hq n1 n2 => keep q hq n1 (fun e => n2 (by rw [e]; rfl))) (fun cs t hh => ?_) ?_ ?_, fun kk hk => ?_⟩
  · have hi : i < (xAt (lsA ls A).l I).l.length := hi
    obtain ⟨e0, e1, e2, c, cp, e3, e4⟩ := hch i hi
    have cc : ∀ o, i * 4 + o < (xAt (lsA ls A).l I).l.length * 4 → cur[i * 4 + o]? = cs0[i * 4 + o]? := fun o ho => by
      rw [hcc _ ho, List.getElem?_take_of_lt ho]
      simp
    exact ⟨(cc 0 (by omega)).trans e0, (cc 1 (by omega)).trans e1, (cc 2 (by omega)).trans e2, c, cp, (cc 3 (by omega)).trans e3, e4⟩
  · rw [hgr.block _ (by have := hb6.size; omega) (fun e => hag (by cases e; rfl)), (below_new (w6.setCell ⟨(lsA ls A).g, I * 4 + 3, none⟩ nv) o).block _ (by have := hb6.size; simp; omega), heap_set hh, ← hv]
    rfl
  · have q := own8
    rw [← hv] at q
    exact q
  · rcases hwh with rfl | q
    · exact .inl rfl
    · exact .inr ⟨g8, rfl, q⟩
  · have hmb : w0.heap.size + 4 < w5.heap.size := (Array.getElem?_eq_some_iff.1 hk).1
    exact (keep _ (by omega) (fun q => q3 q.symm) (fun q => h.mbk (by rw [q]; rfl))).trans ((hb6.block _ hmb).trans hk)
theorem infoLs : (Tryd.prog.info? 24).map (fun i => (i.zero, i.size, i.bytes)) = some (some (.slice none 0 0), 1, 24) := by kernel_rfl
/-- At the beginning: one list, of the term alone. -/
theorem cq_new {w : World} {e : Ex} {b : Option Addr} {cap : Nat} {F0 : List Nat} (ho : OwX w e b F0) (hn : F0.Nodup) (hz : e.sz ≤ 1048576) : Cq w (((((w.alloc (.cells #[.int .i64 e.k, .int .i64 e.n, .string e.s, .slice b e.l.length cap] 26)).alloc (.cells #[.int .i64 0, .int .i64 0, .string ⟨#[]⟩, .slice none 0 0] 26)).alloc (.cells #[.int .i64 e.k, .int .i64 e.n, .string e.s, .slice b e.l.length cap] 26)).alloc (.cells #[.slice (some ⟨w.heap.size + 2, 0, none⟩) 1 1] 24)).alloc (.map #[] 0)) F0 e (.slice (some ⟨w.heap.size + 3, 0, none⟩) 1 1) [⟨w.heap.size + 2, 1, [e], 0, 0⟩] 0 0 (fun _ _ => F0) [] ∧ IsMz (((((w.alloc (.cells #[.int .i64 e.k, .int .i64 e.n, .string e.s, .slice b e.l.length cap] 26)).alloc (.cells #[.int .i64 0, .int .i64 0, .string ⟨#[]⟩, .slice none 0 0] 26)).alloc (.cells #[.int .i64 e.k, .int .i64 e.n, .string e.s, .slice b e.l.length cap] 26)).alloc (.cells #[.slice (some ⟨w.heap.size + 2, 0, none⟩) 1 1] 24)).alloc (.map #[] 0)) (w.heap.size + 4) [] := by
  have z1 : (w.alloc (.cells #[.int .i64 e.k, .int .i64 e.n, .string e.s, .slice b e.l.length cap] 26)).heap.size = w.heap.size + 1 := by simp
  have z2 : ((w.alloc (.cells #[.int .i64 e.k, .int .i64 e.n, .string e.s, .slice b e.l.length cap] 26)).alloc (.cells #[.int .i64 0, .int .i64 0, .string ⟨#[]⟩, .slice none 0 0] 26)).heap.size = w.heap.size + 2 := by simp
  have z3 : (((w.alloc (.cells #[.int .i64 e.k, .int .i64 e.n, .string e.s, .slice b e.l.length cap] 26)).alloc (.cells #[.int .i64 0, .int .i64 0, .string ⟨#[]⟩, .slice none 0 0] 26)).alloc (.cells #[.int .i64 e.k, .int .i64 e.n, .string e.s, .slice b e.l.length cap] 26)).heap.size = w.heap.size + 3 := by simp
  have z4 : ((((w.alloc (.cells #[.int .i64 e.k, .int .i64 e.n, .string e.s, .slice b e.l.length cap] 26)).alloc (.cells #[.int .i64 0, .int .i64 0, .string ⟨#[]⟩, .slice none 0 0] 26)).alloc (.cells #[.int .i64 e.k, .int .i64 e.n, .string e.s, .slice b e.l.length cap] 26)).alloc (.cells #[.slice (some ⟨w.heap.size + 2, 0, none⟩) 1 1] 24)).heap.size = w.heap.size + 4 := by simp
  have b1 := below_new w (.cells #[.int .i64 e.k, .int .i64 e.n, .string e.s, .slice b e.l.length cap] 26)
  have b2 := below_new (w.alloc (.cells #[.int .i64 e.k, .int .i64 e.n, .string e.s, .slice b e.l.length cap] 26)) (.cells #[.int .i64 0, .int .i64 0, .string ⟨#[]⟩, .slice none 0 0] 26)
  have b3 := below_new ((w.alloc (.cells #[.int .i64 e.k, .int .i64 e.n, .string e.s, .slice b e.l.length cap] 26)).alloc (.cells #[.int .i64 0, .int .i64 0, .string ⟨#[]⟩, .slice none 0 0] 26)) (.cells #[.int .i64 e.k, .int .i64 e.n, .string e.s, .slice b e.l.length cap] 26)
  have b4 := below_new (((w.alloc (.cells #[.int .i64 e.k, .int .i64 e.n, .string e.s, .slice b e.l.length cap] 26)).alloc (.cells #[.int .i64 0, .int .i64 0, .string ⟨#[]⟩, .slice none 0 0] 26)).alloc (.cells #[.int .i64 e.k, .int .i64 e.n, .string e.s, .slice b e.l.length cap] 26)) (.cells #[.slice (some ⟨w.heap.size + 2, 0, none⟩) 1 1] 24)
  have b5 := below_new ((((w.alloc (.cells #[.int .i64 e.k, .int .i64 e.n, .string e.s, .slice b e.l.length cap] 26)).alloc (.cells #[.int .i64 0, .int .i64 0, .string ⟨#[]⟩, .slice none 0 0] 26)).alloc (.cells #[.int .i64 e.k, .int .i64 e.n, .string e.s, .slice b e.l.length cap] 26)).alloc (.cells #[.slice (some ⟨w.heap.size + 2, 0, none⟩) 1 1] 24)) (.map #[] 0)
  have r1 : ((w.alloc (.cells #[.int .i64 e.k, .int .i64 e.n, .string e.s, .slice b e.l.length cap] 26)).alloc (.cells #[.int .i64 0, .int .i64 0, .string ⟨#[]⟩, .slice none 0 0] 26)).heap[w.heap.size + 1]? = some (.cells #[.int .i64 0, .int .i64 0, .string ⟨#[]⟩, .slice none 0 0] 26 (0, 0)) := by rw [← z1]; exact Array.getElem?_push_size
  have r2 : (((w.alloc (.cells #[.int .i64 e.k, .int .i64 e.n, .string e.s, .slice b e.l.length cap] 26)).alloc (.cells #[.int .i64 0, .int .i64 0, .string ⟨#[]⟩, .slice none 0 0] 26)).alloc (.cells #[.int .i64 e.k, .int .i64 e.n, .string e.s, .slice b e.l.length cap] 26)).heap[w.heap.size + 2]? = some (.cells #[.int .i64 e.k, .int .i64 e.n, .string e.s, .slice b e.l.length cap] 26 (0, 0)) := by rw [← z2]; exact Array.getElem?_push_size
  have r3 : ((((w.alloc (.cells #[.int .i64 e.k, .int .i64 e.n, .string e.s, .slice b e.l.length cap] 26)).alloc (.cells #[.int .i64 0, .int .i64 0, .string ⟨#[]⟩, .slice none 0 0] 26)).alloc (.cells #[.int .i64 e.k, .int .i64 e.n, .string e.s, .slice b e.l.length cap] 26)).alloc (.cells #[.slice (some ⟨w.heap.size + 2, 0, none⟩) 1 1] 24)).heap[w.heap.size + 3]? = some (.cells #[.slice (some ⟨w.heap.size + 2, 0, none⟩) 1 1] 24 (0, 0)) := by rw [← z3]; exact Array.getElem?_push_size
  have r4 : (((((w.alloc (.cells #[.int .i64 e.k, .int .i64 e.n, .string e.s, .slice b e.l.length cap] 26)).alloc (.cells #[.int .i64 0, .int .i64 0, .string ⟨#[]⟩, .slice none 0 0] 26)).alloc (.cells #[.int .i64 e.k, .int .i64 e.n, .string e.s, .slice b e.l.length cap] 26)).alloc (.cells #[.slice (some ⟨w.heap.size + 2, 0, none⟩) 1 1] 24)).alloc (.map #[] 0)).heap[w.heap.size + 4]? = some (.map #[] 0) := by rw [← z4]; exact Array.getElem?_push_size
  have r1' := row_keep (row_keep (row_keep r1 b3) b4) b5
  have r2' := row_keep (row_keep r2 b4) b5
  have r3' := row_keep r3 b5
  have bb := (((b1.trans (b2.mono b1.size)).trans (b3.mono (by omega))).trans (b4.mono (by omega))).trans (b5.mono (by omega))
  have hsz : (((((w.alloc (.cells #[.int .i64 e.k, .int .i64 e.n, .string e.s, .slice b e.l.length cap] 26)).alloc (.cells #[.int .i64 0, .int .i64 0, .string ⟨#[]⟩, .slice none 0 0] 26)).alloc (.cells #[.int .i64 e.k, .int .i64 e.n, .string e.s, .slice b e.l.length cap] 26)).alloc (.cells #[.slice (some ⟨w.heap.size + 2, 0, none⟩) 1 1] 24)).alloc (.map #[] 0)).heap.size = w.heap.size + 5 := by simp
  refine ⟨?_, r4⟩
  generalize (((((w.alloc (.cells #[.int .i64 e.k, .int .i64 e.n, .string e.s, .slice b e.l.length cap] 26)).alloc (.cells #[.int .i64 0, .int .i64 0, .string ⟨#[]⟩, .slice none 0 0] 26)).alloc (.cells #[.int .i64 e.k, .int .i64 e.n, .string e.s, .slice b e.l.length cap] 26)).alloc (.cells #[.slice (some ⟨w.heap.size + 2, 0, none⟩) 1 1] 24)).alloc (.map #[] 0)) = W at *
  have la : ∀ j, j < 1 → lsA [⟨w.heap.size + 2, 1, [e], 0, 0⟩] j = ⟨w.heap.size + 2, 1, [e], 0, 0⟩ := fun j hj => by
    have : j = 0 := by omega
    subst this; rfl
  refine ⟨bb, by omega, ⟨rfl, .inr ⟨w.heap.size + 3, 1, _, rfl, by omega, r3', Nat.le_refl _, by unfold maxLen; omega, rfl, rfl⟩⟩, r1', by simp, rfl, fun j hj => ?_, fun q => ?_, fun j j' hj hj' _ => ?_, fun m h0 hm => ?_, fun j hj => ?_, fun j i hj hi => ?_, fun j i j' i' hj hi _ hj' hi' _ hne => ?_, fun j i _ _ _ k hk => (by cases hk), rfl, by simp, fun k hk => (by cases hk)⟩
  · have hj : j < 1 := hj
    rw [la j hj]
    exact ⟨Nat.le_refl _, fun q => by simp [Value.ownBlock] at q, by show w.heap.size + 2 ≠ w.heap.size + 4; omega, _, _, r2'⟩
  · simp [Value.ownBlock] at q
  · have hj : j < 1 := hj
    have hj' : j' < 1 := hj'
    omega
  · have hm : m < 1 := hm
    omega
  · have hj : j < 1 := hj
    rw [la j hj]
    exact ⟨by simp, by simp [szX]; exact hz⟩
  · have hj : j < 1 := hj
    unfold Cel
    rw [la j hj] at hi ⊢
    have hi : i < 1 := hi
    have : i = 0 := by omega
    subst this
    refine ⟨Lib.cell_of_heap r2' 0, Lib.cell_of_heap r2' 1, Lib.cell_of_heap r2' 2, _, Lib.cell_of_heap r2' 3, fun q => ?_, fun _ => ⟨b, cap, rfl, ho, hn, fun _ h => h⟩⟩
    unfold dnC at q
    rcases q with q | ⟨_, q⟩ <;> omega
  · have hj : j < 1 := hj
    have hj' : j' < 1 := hj'
    rw [la j hj] at hi
    rw [la j' hj'] at hi'
    have hi : i < 1 := hi
    have hi' : i' < 1 := hi'
    exact absurd ⟨by omega, by omega⟩ hne
set_option maxHeartbeats 8000000 in
theorem copyI_any (e : Ex) (b : Option Addr) (cap : Nat) (F0 : List Nat) (w : World) (ho : OwX w e b F0) (hn : F0.Nodup) (hz : e.sz ≤ 1048576) : Calls Tryd.prog 46 #[.agg (e.cs b cap)] w (XoR e w) := by
  have C0 := hide (cq_new (cap := cap) ho hn hz)
  have hF := Nat.le_trans (OwX.len e b F0 ho) (show 1 + e.sz ≤ 1048577 by omega)
  have CL := hide (fun wr (h : Below w.heap.size w wr) => (show ∀ x ∈ F0, Cln wr x from fun x hx => (OwX.cln e b F0 ho x hx).later h))
  have RDL := hide (fun (x : Ex) c F wr (h : OwX w x c F) (hb : Below w.heap.size w wr) => (show RdX wr 0 x c from OwX.rd x c F (fun _ _ => Nat.zero_le _) (h.later hb)))
  obtain ⟨i0, hi, hz0', hz1, hz2⟩ := info_parts infoX
  obtain ⟨j0, hj, hy0, hy1, hy2⟩ := info_parts infoLs
  generalize hX : XoR e w = X
  have HX := hide hX
  have hmk := run_mkz
  unfold Ex.cs
  clear hX ho hn
  go_enter Tryd.func46, Tryd.ntmps46
  go_wp2
  rw [show w.heap.size + 1 + 1 + 1 + 1 = w.heap.size + 4 from rfl, show w.heap.size + 1 + 1 + 1 = w.heap.size + 3 from rfl, show w.heap.size + 1 + 1 = w.heap.size + 2 from rfl]
  generalize (((((w.alloc (.cells #[.int .i64 e.k, .int .i64 e.n, .string e.s, .slice b e.l.length cap] 26)).alloc (.cells #[.int .i64 0, .int .i64 0, .string ⟨#[]⟩, .slice none 0 0] 26)).alloc (.cells #[.int .i64 e.k, .int .i64 e.n, .string e.s, .slice b e.l.length cap] 26)).alloc (.cells #[.slice (some ⟨w.heap.size + 2, 0, none⟩) 1 1] 24)).alloc (.map #[] 0)) = W at *
  generalize hmb : w.heap.size + 4 = mb at *
  have HMB := hide hmb
  clear hmb
  go_loopw [3, 5, 6] (fun v wt i wr => ∃ (A : Nat) (t : Int) (ls : List Ls) (FF : Nat → Nat → List Nat) (kz : List Kz), i = .int .i64 A ∧ wt = .int .i64 t ∧ A ≤ ls.length ∧ Cq w wr F0 e v ls A 0 FF kz ∧ IsMz wr mb kz) (fun _ _ i _ => 1048580 - (intOf i).toNat)
  case atStart => exact ⟨0, 0, _, _, _, rfl, rfl, Nat.zero_le _, (unhide C0).1, (unhide C0).2⟩
  case round =>
    clear C0
    obtain ⟨A, wt, ls, FF, kz, rfl, rfl, hA, hq, hm⟩ := hrel
    have hcn := hq.cnt
    obtain ⟨gl, cl, rfl⟩ := own_formC hq.own hq.pos
    have HQ := hide hq
    have HM := hide hm
    by_cases hlt : A < ls.length
    · have cA := (own_cell hq.own hlt).trans (ls_at hlt)
      have HS := hide (hq.sz A hlt)
      have hzn := (hq.sz A hlt).1
      obtain ⟨z, hz0⟩ : ∃ z, lsA ls A = z := ⟨_, rfl⟩
      rw [hz0] at cA hzn HS
      have HZ0 := hide hz0
      unfold Ls.v at cA
      have hAi : ¬ ((ls.length : Int) ≤ (A : Int)) := by omega
      clear hq hm hz0
      generalize hzn' : z.l.length = zn at *
      have HZN := hide hzn'
      generalize hzg : z.g = zg at *
      have HZG := hide hzg
      generalize hzc : z.c = zc at *
      have HZC := hide hzc
      clear hzn' hzg hzc
      generalize hll : ls.length = ll at *
      have HLL := hide hll
      clear hll
      go_wp2
      clear cA
      go_loopw [3, 5, 27] (fun v wt i wr => ∃ (I : Nat) (t : Int) (ls : List Ls) (FF : Nat → Nat → List Nat) (kz : List Kz), i = .int .i64 I ∧ wt = .int .i64 t ∧ I ≤ zn ∧ A < ls.length ∧ lsA ls A = z ∧ Cq w wr F0 e v ls A I FF kz ∧ IsMz wr mb kz) (fun _ _ i _ => zn - (intOf i).toNat)
      case atStart => exact ⟨0, wt, ls, FF, kz, rfl, rfl, Nat.zero_le _, by rw [unhide HLL]; exact hlt, unhide HZ0, unhide HQ, unhide HM⟩
      case round =>
        clear HQ HM HZ0 hcn hlt hA hAi HLL
        obtain ⟨I, t, ls, FF, kz, rfl, rfl, hI, hA2, hz0, hq, hm⟩ := hrel
        have hcn := hq.cnt
        obtain ⟨gl, cl, rfl⟩ := own_formC hq.own hq.pos
        by_cases hIlt : I < zn
        · have hIz : I < (lsA ls A).l.length := by rw [hz0, unhide HZN]; exact hIlt
          have hAi : ¬ ((ls.length : Int) ≤ (A : Int)) := by omega
          have hIi : ¬ ((zn : Int) ≤ (I : Int)) := by omega
          have cA := (own_cell hq.own hA2).trans (ls_at hA2)
          rw [hz0] at cA
          unfold Ls.v at cA
          rw [unhide HZG, unhide HZN, unhide HZC] at cA
          obtain ⟨c, cp, x2, x3, xo, xn, xf⟩ := hq.here hA2 hIz
          rw [hz0] at x2 x3 xo
          rw [unhide HZG] at x2 x3
          have hg1 := (hq.blk A hA2).2.2.2
          rw [hz0, unhide HZG] at hg1
          have hxz : (xAt z.l I).sz ≤ 1048576 := Nat.le_trans (sz_part (by rw [unhide HZN]; exact hIlt)) (unhide HS).2
          have hxs : (xAt z.l I).s.size ≤ 1048576 := by have := sz_is (xAt z.l I); omega
          have hxl : (xAt z.l I).l.length ≤ 1048576 := by have := sz_is (xAt z.l I); omega
          have CLN := hide (cloneI_any (xAt z.l I).s wr (by omega))
          have HQ := hide hq
          have HM := hide hm
          have HX0 := hide xo
          have HXN := hide xn
          have HXF := hide xf
          have HG1 := hide hg1
          have NIL := hide (fun (wr : World) (hq : Cq w wr F0 e (.slice (some ⟨gl, 0, none⟩) ls.length cl) ls A I FF kz) (h0 : (xAt z.l I).l = []) => (by
            have q := hq.nil hA2 hIz (by rw [hz0]; exact h0)
            rw [hz0, unhide HZG] at q
            exact q : Cq w (wr.setCell ⟨zg, I * 4 + 3, none⟩ (.slice none 0 0)) F0 e (.slice (some ⟨gl, 0, none⟩) ls.length cl) ls A (I + 1) FF kz))
          have NMB := hide (show zg ≠ mb by have := (hq.blk A hA2).2.2.1; rw [hz0, unhide HZG, unhide HMB] at this; exact this)
          clear hq hm xo xn xf hg1
          generalize hxs' : (xAt z.l I).s = xs at *
          generalize hxl' : (xAt z.l I).l.length = xl at *
          have HXL := hide hxl'
          clear hxs' hxl'
          generalize hll : ls.length = ll at *
          have HLL := hide hll
          clear hll
          go_wp2_with fail
          refine (unhide CLN).mono ?_
          rintro r w1 ⟨rfl, hb1⟩
          have HQ1 := hide ((unhide HQ).later hb1)
          have HM1 := hide ((unhide HM).later hb1)
          have zl1 : zg < wr.heap.size := by obtain ⟨cs, t, hh⟩ := unhide HG1; exact (Array.getElem?_eq_some_iff.1 hh).1
          have y2 := (hb1.cell (p := ⟨zg, I * 4 + 2, none⟩) zl1).trans x2
          have y3 := (hb1.cell (p := ⟨zg, I * 4 + 3, none⟩) zl1).trans x3
          have hg2 := (unhide HG1).later hb1
          have id2 := setCell_id hg2 y2
          have f2 : w1.frozen? ⟨zg, I * 4 + 2, none⟩ = false := by obtain ⟨cs, t, hh⟩ := hg2; exact Lib.frozen_of_heap hh _
          have f3 : w1.frozen? ⟨zg, I * 4 + 3, none⟩ = false := by obtain ⟨cs, t, hh⟩ := hg2; exact Lib.frozen_of_heap hh _
          have HG2 := hide hg2
          clear hb1 HQ HM HG1 CLN x2 x3 zl1 hg2 cA
          by_cases h0 : xl = 0
          · have hn0 : (xAt z.l I).l = [] := List.eq_nil_of_length_eq_zero (by rw [unhide HXL]; exact h0)
            subst h0
            have Q3 := hide (unhide NIL w1 (unhide HQ1) hn0)
            have M3 := hide (show IsMz (w1.setCell ⟨zg, I * 4 + 3, none⟩ (.slice none 0 0)) mb kz from (heap_setCell_other w1 ⟨zg, I * 4 + 3, none⟩ mb _ (fun q => unhide NMB q.symm)).trans (unhide HM1))
            clear NIL HQ1 HM1 hn0
            go_wp2
            go_roundw
            case rel => exact ⟨I + 1, t, ls, FF, kz, by go_num, rfl, by omega, by rw [unhide HLL]; exact hA2, hz0, unhide Q3, unhide M3⟩
            case measure => simp [intOf]; omega
          · clear NIL
            have h0i : ((xl : Int) == 0) = false := beq_eq_false_iff_ne.2 (by omega)
            have hone : ¬ ((xl : Int) ≤ 0) := by omega
            obtain ⟨bk, cs0, t0, Fs, rfl, hh0, hsz0, hFs, hF, hch⟩ : ∃ (bk : Nat) (cs0 : Array Value) (t0 : TypeId) (Fs : List (List Nat)), c = some ⟨bk, 0, none⟩ ∧ w.heap[bk]? = some (.cells cs0 t0 (0, 0)) ∧ xl * 4 ≤ cs0.size ∧ Fs.length = (xAt z.l I).l.length ∧ FF A I = bk :: Fs.flatten ∧ ∀ i, i < (xAt z.l I).l.length → OwOne w cs0 i (xAt (xAt z.l I).l i) (Fs.getD i []) := by
              rcases (OwX_eq _ _ _ _).1 (unhide HX0) with ⟨q, _⟩ | ⟨bk, cs0, t0, Fs, q1, q2, q3, q4, q5, q6⟩
              · have := unhide HXL; rw [q] at this; exact absurd this.symm h0
              · exact ⟨bk, cs0, t0, Fs, q1, q2, by rw [← unhide HXL]; exact q3, q4, q5, q6⟩
            have hbF : bk ∈ FF A I := by rw [hF]; exact List.mem_cons_self
            have hb0 : bk ∈ F0 := unhide HXF bk hbF
            have hA3 : A < ls.length := by rw [unhide HLL]; exact hA2
            have hIz2 : I < (lsA ls A).l.length := by rw [hz0, unhide HZN]; exact hIlt
            have KC := hide (fun wr (h : Below w.heap.size w wr) => (show Cln wr bk ∧ ∀ l ∈ kz, Cln wr l.a ∧ bk ≠ l.a from ⟨unhide CL wr h bk hb0, fun l hl => ⟨unhide CL wr h l.a ((unhide HQ1).kf l hl), fun q => (unhide HQ1).kd A I hA3 hIz2 (dn_not A I) l hl (q ▸ hbF)⟩⟩))
            have HH0 := hide hh0
            have HFF := hide hF
            have HFS := hide hFs
            have HCH := hide hch
            clear hb0 hbF hh0 hF hFs hch
            go_wp2_with fail
            have hbd := below_drew (w := w1)
            have HQ2 := hide ((unhide HQ1).later hbd)
            have HM2 := hide ((unhide HM1).later hbd)
            have z1 : zg < w1.heap.size := by obtain ⟨cs, t, hh⟩ := unhide HG2; exact (Array.getElem?_eq_some_iff.1 hh).1
            have y3d := hide ((hbd.cell (p := ⟨zg, I * 4 + 3, none⟩) z1).trans y3)
            have HG3 := hide ((unhide HG2).later hbd)
            clear hbd HQ1 HM1 HG2 id2 f2 f3 y2 y3 z1
            refine wp_region_held_drew (S := fun v => v.cell? ⟨zg, I * 4 + 3, none⟩ = some (.slice (some ⟨bk, 0, none⟩) xl cp)) (by kernel_rfl) (unhide y3d) (fun hS => ?_)
            have HS1 := hide hS
            clear hS
            generalize w1.drew = w2 at *
            refine wpAnyH_take (i := 0) (v := .pointer (some ⟨zg, I * 4, none⟩)) rfl (by kernel_rfl) (by kernel_rfl) (by kernel_rfl) (fun _ _ _ h => h) (Or.inl ⟨by rfl, fun w hc => ?_⟩) (unhide HS1) ?_
            · clear hc; go_simp
            go_simp
            refine wpAnyH_take (i := 1) (v := .pointer (some ⟨zg, I * 4, none⟩)) rfl (by kernel_rfl) (by kernel_rfl) (by kernel_rfl) (fun _ _ _ h => h) (Or.inl ⟨by rfl, fun w hc => ?_⟩) (unhide HS1) ?_
            · clear hc; go_simp
            go_simp
            refine wpAnyH_take (i := 2) (v := .pointer (some ⟨zg, I * 4 + 3, none⟩)) rfl (by kernel_rfl) (by kernel_rfl) (by kernel_rfl) (fun _ _ _ h => h) (Or.inl ⟨by rfl, fun w hc => ?_⟩) (unhide HS1) ?_
            · clear hc; go_simp
            go_simp
            refine wpAnyH_take (i := 3) (v := .slice (some ⟨bk, 0, none⟩) xl cp) rfl (by kernel_rfl) (by kernel_rfl) (by kernel_rfl) (fun _ _ _ h => h) (Or.inl ⟨by rfl, fun w hc => ?_⟩) (unhide HS1) ?_
            · go_simp
            go_simp
            refine wpAnyH_take (i := 4) (v := .pointer (some ⟨bk, 0, none⟩)) rfl (by kernel_rfl) (by kernel_rfl) (by kernel_rfl) (fun _ _ _ h => h) (Or.inl ⟨by rfl, fun w hc => ?_⟩) (unhide HS1) ?_
            · clear hc; go_simp
            go_simp
            refine wpAnyH_take (i := 5) (v := .pointer (some ⟨zg, I * 4, none⟩)) rfl (by kernel_rfl) (by kernel_rfl) (by kernel_rfl) (fun _ _ _ h => h) (Or.inl ⟨by rfl, fun w hc => ?_⟩) (unhide HS1) ?_
            · clear hc; go_simp
            go_simp
            refine wpAnyH_take (i := 6) (v := .pointer (some ⟨zg, I * 4, none⟩)) rfl (by kernel_rfl) (by kernel_rfl) (by kernel_rfl) (fun _ _ _ h => h) (Or.inl ⟨by rfl, fun w hc => ?_⟩) (unhide HS1) ?_
            · clear hc; go_simp
            go_simp
            refine wpAnyH_take (i := 7) (v := .pointer (some ⟨zg, I * 4 + 3, none⟩)) rfl (by kernel_rfl) (by kernel_rfl) (by kernel_rfl) (fun _ _ _ h => h) (Or.inl ⟨by rfl, fun w hc => ?_⟩) (unhide HS1) ?_
            · clear hc; go_simp
            go_simp
            refine wpAnyH_take (i := 8) (v := .slice (some ⟨bk, 0, none⟩) xl cp) rfl (by kernel_rfl) (by kernel_rfl) (by kernel_rfl) (fun _ _ _ h => h) (Or.inl ⟨by rfl, fun w hc => ?_⟩) (unhide HS1) ?_
            · go_simp
            go_simp
            refine wpAnyH_take (i := 9) (v := .int .i64 (xl : Nat)) rfl (by kernel_rfl) (by kernel_rfl) (by kernel_rfl) (fun _ _ _ h => h) (Or.inl ⟨by rfl, fun w hc => ?_⟩) (unhide HS1) ?_
            · clear hc; go_simp
            go_simp
            refine wpAnyH_take (i := 10) (v := .agg #[.pointer (some ⟨bk, 0, none⟩), .int .i64 (xl : Nat)]) rfl (by kernel_rfl) (by kernel_rfl) (by kernel_rfl) (fun _ _ _ h => h) (Or.inl ⟨by rfl, fun w hc => ?_⟩) (unhide HS1) ?_
            · clear hc; go_simp
            go_simp
            refine wpAnyH_ready (rs := [11]) (by kernel_rfl) (by simp) ?_
            refine AllReadyH.cons rfl (fun K2 hK => ?_) AllReadyH.nil
            go_simp
            have hba := below_new w2 (.cells #[.pointer none, .int .i64 0] 112)
            have R3 := hide (show (w2.alloc (.cells #[.pointer none, .int .i64 0] 112)).heap[w2.heap.size]? = some (.cells #[.pointer none, .int .i64 0] 112 (0, 0)) from Array.getElem?_push_size)
            have z2 : zg < w2.heap.size := by obtain ⟨cs, t, hh⟩ := unhide HG3; exact (Array.getElem?_eq_some_iff.1 hh).1
            have y3a := hide ((hba.cell (p := ⟨zg, I * 4 + 3, none⟩) z2).trans (unhide y3d))
            have HB3 := hide (fun (row : Array Value) => (show Below w2.heap.size w2 ((w2.alloc (.cells #[.pointer none, .int .i64 0] 112)).setRow w2.heap.size row) from hba.grown (grownBy_row _) (Nat.le_of_lt (by simp)) (fun k e => by cases e; exact Nat.le_refl _)))
            clear hba
            have hzk : zg ≠ w2.heap.size := by omega
            generalize w2.alloc (.cells #[.pointer none, .int .i64 0] 112) = w2a at *
            generalize hgk : w2.heap.size = gk at *
            refine hK.out _ _ (unhide y3a) (fun hS => ?_)
            clear HS1
            have HS1 := hide hS
            clear hS hK K2
            refine wpAnyH_ready (rs := [12]) (by kernel_rfl) (by simp) ?_
            refine AllReadyH.cons rfl (fun K2 hK => ?_) AllReadyH.nil
            rw [if_pos (by rfl)]
            refine wp_store_row 112 _ _ rfl gk #[.pointer (some ⟨bk, 0, none⟩), .int .i64 (xl : Nat)] rfl rfl 112 _ (unhide R3) (by kernel_rfl) rfl (by simp [Value.oneCell']) ?_
            have hbb := unhide HB3 #[.pointer (some ⟨bk, 0, none⟩), .int .i64 (xl : Nat)]
            have G3 := hide (setRow_heap w2a gk _ #[.pointer (some ⟨bk, 0, none⟩), .int .i64 (xl : Nat)] 112 _ (unhide R3))
            rw [← hgk] at hbb
            have Q3 := hide ((unhide HQ2).later hbb)
            have M3 := hide ((unhide HM2).later hbb)
            have y33 := (hbb.cell (p := ⟨zg, I * 4 + 3, none⟩) (by rw [hgk]; exact z2)).trans (unhide y3d)
            have G4 := hide ((unhide HG3).later hbb)
            rw [hgk] at hbb Q3 M3 y33 G4
            have Y3 := hide y33
            clear hbb HB3 R3 HQ2 HM2 y3d y3a HG3 z2 y33
            refine hK.out _ _ (unhide Y3) (fun hS => ?_)
            clear HS1 hS hK K2
            refine wpAnyH_done (by kernel_rfl) ?_ _
            generalize w2a.setRow gk #[.pointer (some ⟨bk, 0, none⟩), .int .i64 (xl : Nat)] = w3 at *
            clear hgk
            have LK := run_lookz (unhide M3) ⟨bk, xl, ll⟩ (unhide KC w3 (unhide Q3).bel).1 (unhide KC w3 (unhide Q3).bel).2
            obtain ⟨w4, hput, hm4, hgr4⟩ := run_putz (unhide M3) ⟨bk, xl, ll⟩ (unhide KC w3 (unhide Q3).bel).1 (unhide KC w3 (unhide Q3).bel).2
            have Q4 := hide ((unhide Q3).map (by rw [unhide HMB]; exact hgr4))
            have M4 := hide hm4
            have z3 : zg < w3.heap.size := by obtain ⟨cs, t, hh⟩ := unhide G4; exact (Array.getElem?_eq_some_iff.1 hh).1
            have hz4 := hgr4.block zg z3 (fun q => unhide NMB (by cases q; rfl))
            have y34 := (cell_eq hz4 (I * 4 + 3)).trans (unhide Y3)
            have G5 := hide (show Cln w4 zg by obtain ⟨cs, t, hh⟩ := unhide G4; exact ⟨cs, t, hz4.trans hh⟩)
            unfold Kz.key at LK hput
            simp only at LK hput
            have WT := hide (weight_any (xAt z.l I) (some ⟨bk, 0, none⟩) xl cp w4 (unhide HXL) (by omega) (fun i hi => by
              have h1 := sz_part (l := (xAt z.l I).l) (i := i) (by rw [unhide HXL]; exact hi)
              have h2 := sz_is (xAt z.l I)
              have h3 := sz_is (xAt (xAt z.l I).l i)
              omega) (unhide RDL _ _ _ w4 (unhide HX0) (unhide Q4).bel))
            clear hm4 hgr4 hz4 z3
            go_wp2_with (refine wpList_load_row rfl 112 _ rfl gk rfl 112 #[.pointer (some ⟨bk, 0, none⟩), .int .i64 (xl : Nat)] (0, 0) _ (unhide G3) Tryd.underlying112 rfl (by kernel_rfl) ?_)
            clear LK hput
            refine (unhide WT).mono ?_
            rintro r w5 ⟨⟨wk, rfl⟩, hb5⟩
            have Q5 := hide ((unhide Q4).later hb5)
            have M5 := hide ((unhide M4).later hb5)
            have z4 : zg < w4.heap.size := by obtain ⟨cs, t, hh⟩ := unhide G5; exact (Array.getElem?_eq_some_iff.1 hh).1
            have y35 := (hb5.cell (p := ⟨zg, I * 4 + 3, none⟩) z4).trans y34
            have G6 := hide ((unhide G5).later hb5)
            clear hb5 y34 Q3 Q4 M3 M4 G3 G4 G5 Y3 z4 WT
            have hl4 : (cs0.toList.take (xl * 4)).length = xl * 4 := by simp; omega
            have NC := hide (show ∀ j u, (cs0.toList.take (xl * 4))[j]? = some u → w5.cell? ((⟨bk, 0, none⟩ : Addr).add j) = some u from fun j u hu => by
              have hj : j < xl * 4 := by have := (List.getElem?_eq_some_iff.1 hu).1; rw [hl4] at this; exact this
              rw [List.getElem?_take_of_lt hj] at hu
              have q := (row_keep (unhide HH0) ((unhide Q5).bel))
              have q2 : w5.cell? ⟨bk, j, none⟩ = some u := by rw [Lib.cell_of_heap q]; simpa using hu
              unfold Addr.add
              by_cases h0 : j = 0
              · subst h0; simpa using q2
              · simpa [h0] using q2)
            have N1 := hide (show ∀ u ∈ cs0.toList.take (xl * 4), u.oneCell' = true from fun u hu => by
              obtain ⟨j, hj⟩ := List.getElem?_of_mem hu
              have hj2 : j < xl * 4 := by have := (List.getElem?_eq_some_iff.1 hj).1; rw [hl4] at this; exact this
              rw [List.getElem?_take_of_lt hj2] at hj
              have hj3 : cs0[j]? = some u := by simpa using hj
              obtain ⟨e0, e1, e2, cc, cq, e3, _⟩ := unhide HCH (j / 4) (by rw [unhide HXL]; omega)
              have : j % 4 = 0 ∨ j % 4 = 1 ∨ j % 4 = 2 ∨ j % 4 = 3 := by omega
              rcases this with q | q | q | q
              · rw [show j = j / 4 * 4 by omega, e0] at hj3; cases hj3; rfl
              · rw [show j = j / 4 * 4 + 1 by omega, e1] at hj3; cases hj3; rfl
              · rw [show j = j / 4 * 4 + 2 by omega, e2] at hj3; cases hj3; rfl
              · rw [show j = j / 4 * 4 + 3 by omega, e3] at hj3; cases hj3; rfl)
            have NL := hide hl4
            have BS := hide (show w.heap.size + 2 ≤ w5.heap.size by have := (unhide Q5).lt; omega)
            clear hl4
            have EX := hide (show cs0.toList.take (xl * 4) = cs0.toList.take ((xAt (lsA ls A).l I).l.length * 4) by rw [hz0, unhide HXL])
            have LEN := hide (show (xAt (lsA ls A).l I).l.length = xl by rw [hz0]; exact unhide HXL)
            have ZG2 := hide (show (lsA ls A).g = zg by rw [hz0]; exact unhide HZG)
            have GRW := hide (fun (w6 w8 : World) (cap6 g8 cap8 : Nat) (own6 : w6.ownsRow (w.heap.size + 2) 26 4 (.slice (some ⟨w5.heap.size, 0, none⟩) xl cap6) xl (cs0.toList.take (xl * 4))) (hb6 : Below w5.heap.size w5 w6) (own8 : w8.ownsRow (w.heap.size + 2) 24 1 (.slice (some ⟨g8, 0, none⟩) (ll + 1) cap8) (ll + 1) (ls.map Ls.v ++ [.slice (some ⟨w5.heap.size, 0, none⟩) xl cap6])) (o : Obj) (hgr : ((w6.setCell ⟨zg, I * 4 + 3, none⟩ (.slice (some ⟨w5.heap.size, 0, none⟩) xl cap6)).alloc o).grownBy w8 (some gl)) (hwh : gl = g8 ∨ w6.heap.size ≤ g8) => (by
              have q5 := unhide Q5
              rw [← unhide HLL] at q5 own8 ⊢
              rw [unhide EX] at own6
              rw [← unhide LEN] at own6 own8 hgr
              rw [← unhide ZG2] at hgr
              have q := q5.grow hA3 hIz2 (fun q => h0 (by have := unhide LEN; rw [q] at this; exact this.symm)) (unhide HFF) (by rw [hz0]; exact unhide HFS) (unhide HH0) (by rw [unhide LEN]; exact hsz0) (by rw [hz0]; exact unhide HCH) own6 hb6 own8 o hgr hwh (kv := ls.length)
              rw [unhide LEN] at q
              rw [unhide HMB] at q
              exact q : Cq w w8 F0 e (.slice (some ⟨g8, 0, none⟩) (ll + 1) cap8) (ls ++ [⟨w5.heap.size, cap6, (xAt (lsA ls A).l I).l, A, I⟩]) A (I + 1) (fun j i => if j = ls.length then Fs.getD i [] else FF j i) (kz ++ [⟨bk, xl, ll⟩]) ∧ ∀ kk, IsMz w5 mb kk → IsMz w8 mb kk))
            have O5' := (unhide Q5).own
            rw [unhide HLL] at O5'
            have O5 := hide O5'
            clear O5'
            generalize cs0.toList.take (xl * 4) = news at *
            have ZGL := hide (show (Value.slice (some ⟨gl, 0, none⟩) ll cl).ownBlock ≠ some zg from by have q := ((unhide Q5).blk A hA3).2.1; rw [unhide ZG2] at q; exact q)
            have STAGE1 : True := trivial
            go_wp2_with (first | (at_builtin; clear STAGE1; go_must (refine wpList_append_to rfl (.const (.slice none 0 0)) (.tmp 97) 24 rfl (w.heap.size + 2) 26 i0 (.agg #[.int .i64 0, .int .i64 0, .string ⟨#[]⟩, .slice none 0 0]) 4 56 Tryd.underlying24 hi hz0' hz1 hz2 rfl (by decide) (.slice none 0 0) 0 [] rfl (World.ownsRow_nil _ _ _ _) ⟨bk, 0, none⟩ xl cp news rfl (unhide NL) (unhide NC) (unhide N1) (by unfold maxLen; omega) (by omega) (unhide BS) (by omega) ?_; intro g6 cap6 w6 hown6 hgrow6 hwh6; obtain rfl : g6 = w5.heap.size := (by rcases hwh6 with q | q; exact absurd q (by simp [Value.ownBlock]); exact q); simp only [Nat.zero_add, List.nil_append] at hown6 ⊢; have hb6 : Below w5.heap.size w5 w6 := (Below.refl _ _).grown hgrow6 (Nat.le_refl _) (fun k e => by cases e); have zg5 : zg < w5.heap.size := (by obtain ⟨cs, t, hh⟩ := unhide G6; exact (Array.getElem?_eq_some_iff.1 hh).1); have y36 := (hb6.cell (p := ⟨zg, I * 4 + 3, none⟩) zg5).trans y35; have f6 : w6.frozen? ⟨zg, I * 4 + 3, none⟩ = false := (by obtain ⟨cs, t, hh⟩ := (unhide G6).later hb6; exact Lib.frozen_of_heap hh _); have O7 := hide (((own_below (unhide O5) hb6).kept (grownBy_cell (g := zg) (i := I * 4 + 3) (.slice (some ⟨w5.heap.size, 0, none⟩) xl cap6)) (.inr (unhide ZGL))).alloc (.cells #[.slice (some ⟨w5.heap.size, 0, none⟩) xl cap6] 24)); have N7' := cell_newF (w6.setCell ⟨zg, I * 4 + 3, none⟩ (.slice (some ⟨w5.heap.size, 0, none⟩) xl cap6)) #[.slice (some ⟨w5.heap.size, 0, none⟩) xl cap6] 24; have hz6 : (w6.setCell ⟨zg, I * 4 + 3, none⟩ (.slice (some ⟨w5.heap.size, 0, none⟩) xl cap6)).heap.size = w6.heap.size := (by simp); rw [hz6] at N7'; have N7 := hide N7'; have BS7 := hide (show w.heap.size + 2 ≤ ((w6.setCell ⟨zg, I * 4 + 3, none⟩ (.slice (some ⟨w5.heap.size, 0, none⟩) xl cap6)).alloc (.cells #[.slice (some ⟨w5.heap.size, 0, none⟩) xl cap6] 24)).heap.size from (by have h1 := unhide BS; have h2 := hb6.size; simp; omega)); have GR6 := hide (fun w8 g8 cap8 => unhide GRW w6 w8 cap6 g8 cap8 hown6 hb6); have S67 := hide (show ((w6.setCell ⟨zg, I * 4 + 3, none⟩ (.slice (some ⟨w5.heap.size, 0, none⟩) xl cap6)).alloc (.cells #[.slice (some ⟨w5.heap.size, 0, none⟩) xl cap6] 24)).heap.size = w6.heap.size + 1 by simp); clear hown6 hgrow6 hwh6 hb6 zg5 N7' hz6 y35; have STAGE2 : True := trivial)) | (at_builtin; clear STAGE2; go_must (refine wpList_append_to rfl (.tmp 101) (.tmp 106) 108 rfl (w.heap.size + 2) 24 j0 (.slice none 0 0) 1 24 Tryd.underlying108 hj hy0 hy1 hy2 rfl (by decide) (.slice (some ⟨gl, 0, none⟩) ll cl) ll (ls.map Ls.v) rfl (unhide O7) ⟨w6.heap.size, 0, none⟩ 1 1 [.slice (some ⟨w5.heap.size, 0, none⟩) xl cap6] rfl rfl (unhide N7) (fun u hu => by rw [List.mem_singleton.1 hu]; rfl) (by unfold maxLen; omega) (by omega) (unhide BS7) (by omega) ?_; intro g8 cap8 w8 hown8 hgrow8 hwh8; have Q8 := hide (unhide GR6 w8 g8 cap8 hown8 _ hgrow8 (by rcases hwh8 with q | q; left; simpa [Value.ownBlock] using q; right; have := unhide S67; omega)); clear hown8 hgrow8 hwh8)))
            go_roundw
            case rel => exact ⟨I + 1, _, _, _, _, by go_num, rfl, by omega, by rw [List.length_append]; have := hA3; omega, (lsA_old hA3).trans hz0, (unhide Q8).1, (unhide Q8).2 _ (unhide M5)⟩
            case measure => simp [intOf]; omega
        · obtain rfl : I = zn := by omega
          have Q2 := hide (hq.next (by rw [hz0, unhide HZN]; exact Nat.le_refl _))
          have HM := hide hm
          clear hq hm
          go_wp2
          go_roundw
          case rel => exact ⟨A + 1, t, ls, FF, kz, by go_num, rfl, by omega, unhide Q2, unhide HM⟩
          case measure => simp [intOf]; omega
    · have hAe : A = ls.length := by omega
      subst hAe
      obtain ⟨c, cp, q0, q1, q2, q3, hnx⟩ := hq.end
      have c0 := (own_cell hq.own hq.pos).trans (ls_at hq.pos)
      rw [hq.root] at c0
      unfold Ls.v at c0
      have hpos : ¬ ((ls.length : Int) ≤ 0) := by have := hq.pos; omega
      have NX := hide hnx
      clear hnx hq hm
      go_wp2_with (refine wpList_store_row rfl 26 _ _ rfl (w.heap.size + 1) #[.int .i64 e.k, .int .i64 e.n, .string e.s, .slice c e.l.length cp] rfl rfl 26 _ (unhide HQ).res szE rfl (ex_one _ _ _ _ _ _) ?_)
      refine bodyPost_ret (results_cell_row (P := Tryd.prog) rfl _ _ (w.heap.size + 1) 26 #[.int .i64 e.k, .int .i64 e.n, .string e.s, .slice c e.l.length cp] (0, 0) _ rfl (setRow_heap _ _ _ _ _ _ (unhide HQ).res) Tryd.underlying26 rfl szE) rfl ?_
      rw [← unhide HX]
      exact ⟨c, cp, rfl, ((unhide NX).row _ (by omega)).lower (by omega), (unhide HQ).bel.grown (grownBy_row _) (unhide HQ).bel.size (fun k e => by cases e; omega)⟩
end Go.Proofs.YtkolflcjkofleaaDoor
