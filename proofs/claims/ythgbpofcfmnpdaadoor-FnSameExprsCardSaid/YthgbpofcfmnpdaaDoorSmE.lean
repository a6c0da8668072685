/- Pairs that wait, in memory, beside the map of what was met; conditions stand as hypotheses of each. -/
import Derived.Test.YthgbpofcfmnpdaaDoorSmD
import Derived.OwnWalk
import Derived.Laws.MakeOwn
namespace Go.Proofs.YthgbpofcfmnpdaaDoor
open Go.ChangeShapes Go.WideShapes Go.ChangeAt Go.RowKit
set_option linter.unusedVariables false
set_option maxRecDepth 8000
set_option linter.unusedSimpArgs false

theorem infoP : (Tryd.prog.info? 85).map (fun i => (i.zero, i.size, i.bytes)) = some (some (.agg #[.int .i64 0, .int .i64 0, .string ⟨#[]⟩, .slice none 0 0, .int .i64 0, .int .i64 0, .string ⟨#[]⟩, .slice none 0 0]), 8, 112) := by kernel_rfl
/-- v is a slice of the call's own (blocks from B on) that holds these pairs. -/
def OwnP (w : World) (B : Nat) (v : Value) (L : List Pr) : Prop := w.ownsRow B 85 8 v L.length (cellsP L)
section
variable {w w' : World} {B : Nat} {v : Value} {L : List Pr} {r : Pr}
theorem OwnP.keep (h : OwnP w B v L) (hs : ∀ g, v.ownBlock = some g → g < w.heap.size → w'.heap[g]? = w.heap[g]?) : OwnP w' B v L := by
  obtain ⟨h1, h2 | ⟨g, cap, cur, rfl, hg, hh, r⟩⟩ := h
  · exact ⟨h1, .inl h2⟩
  · exact ⟨h1, .inr ⟨g, cap, cur, rfl, hg, (hs g rfl (Array.getElem?_eq_some_iff.1 hh).1).trans hh, r⟩⟩
theorem OwnP.later (h : OwnP w B v L) (hb : Below w.heap.size w w') : OwnP w' B v L := h.keep fun g _ hg => hb.block g hg
theorem OwnP.lt (h : OwnP w B v L) {g : Nat} (hg : v.ownBlock = some g) : B ≤ g ∧ g < w.heap.size := World.ownsRow.lt h g hg
theorem OwnP.at (h : OwnP w B v (L ++ [r])) : ∃ g cap, v = .slice (some ⟨g, 0, none⟩) (L.length + 1) cap ∧ L.length + 1 ≤ cap ∧ cap ≤ maxLen ∧ g < w.heap.size ∧ (∀ j, j < 8 → w.cell? ⟨g, L.length * 8 + j, none⟩ = r.cs[j]?) ∧ OwnP w B (.slice (some ⟨g, 0, none⟩) L.length cap) L := by
  have hlen : (L ++ [r]).length = L.length + 1 := by simp
  obtain ⟨h1, ⟨rfl, h0⟩ | ⟨g, cap, cur, rfl, hg, hh, hn, hm, hz, ht⟩⟩ := h
  · simp at h0
  · rw [hlen] at hn ht
    refine ⟨g, cap, by rw [hlen], hn, hm, (Array.getElem?_eq_some_iff.1 hh).1, fun j hj => ?_, ?_⟩
    · rw [Lib.cell_of_heap hh, ← cellsP_last L r j hj, ← ht, List.getElem?_take, if_pos (by omega), Array.getElem?_toList]
    · refine ⟨cellsP_len L, .inr ⟨g, cap, cur, rfl, hg, hh, by omega, hm, hz, ?_⟩⟩
      have e : cellsP L = (cellsP (L ++ [r])).take (L.length * 8) := by
        rw [cellsP_app, List.take_append_of_le_length (by rw [cellsP_len]; exact Nat.le_refl _), List.take_of_length_le (by rw [cellsP_len]; exact Nat.le_refl _)]
      rw [e, ← ht, List.take_take]
      congr 1
      omega
theorem ownP_app (h : w.ownsRow B 85 8 v (L.length + 1) (cellsP L ++ r.cs)) : OwnP w B v (L ++ [r]) := by
  unfold OwnP
  rw [List.length_append, cellsP_app]
  simp only [cellsP, List.append_nil]
  exact h
end
theorem cellN (W : World) (cs : Array Value) (t : TypeId) : ∀ j u, cs.toList[j]? = some u → (W.alloc (.cells cs t)).cell? ((⟨W.heap.size, 0, none⟩ : Addr).add j) = some u := by
  intro j u hu
  have h : (W.alloc (.cells cs t)).cell? ⟨W.heap.size, j, none⟩ = some u := by rw [World.cell?_alloc_at _ _ _ _ rfl]; simpa using hu
  unfold Addr.add
  by_cases h0 : j = 0
  · subst h0; simpa using h
  · simpa [h0] using h
theorem pr_one (r : Pr) : ∀ u ∈ r.cs, u.oneCell' = true := by
  intro u hu
  simp only [Pr.cs, List.mem_cons, List.not_mem_nil, or_false] at hu
  rcases hu with rfl | rfl | rfl | rfl | rfl | rfl | rfl | rfl <;> rfl
theorem OwnP.row {w w' : World} {B : Nat} {v : Value} {L : List Pr} (h : OwnP w B v L) (hg : w.grownBy w' v.ownBlock) {gx : Nat} {cs : Array Value} {fr : Nat × Nat} (hx : w.heap[gx]? = some (.cells cs 37 fr)) : w'.heap[gx]? = some (.cells cs 37 fr) := by
  refine (hg.block gx (Array.getElem?_eq_some_iff.1 hx).1 (fun e => ?_)).trans hx
  obtain ⟨_, ⟨rfl, _⟩ | ⟨g, cap, cur, rfl, _, hh, _⟩⟩ := h
  · simp [Value.ownBlock] at e
  · simp [Value.ownBlock] at e
    subst e
    rw [hh] at hx
    cases hx
theorem kids.snoc {w : World} {x y : Ex} {k : Ky} {m : Nat} {M : List Pr} (h : kids w x y k m M) {c d : Option Addr} {cc cd : Nat} (c1 : w.cell? ⟨k.a, m * 4 + 3, none⟩ = some (.slice c (xAt x.l m).l.length cc)) (c2 : w.cell? ⟨k.b, m * 4 + 3, none⟩ = some (.slice d (xAt y.l m).l.length cd)) (o1 : ∃ F, OwX w (xAt x.l m) c F) (o2 : ∃ G, OwX w (xAt y.l m) d G) : kids w x y k (m + 1) (M ++ [⟨xAt x.l m, xAt y.l m, c, d, cc, cd⟩]) := by
  refine ⟨by rw [List.length_append, h.1]; rfl, fun i hi => ?_⟩
  by_cases e : i = m
  · subst e
    refine ⟨c, d, cc, cd, ?_, c1, c2, o1, o2⟩
    rw [List.getElem?_append_right (by rw [h.1]; exact Nat.le_refl _), h.1]
    simp
  · obtain ⟨c', d', cc', cd', m1, r⟩ := h.2 i (by omega)
    exact ⟨c', d', cc', cd', by rw [List.getElem?_append_left (by rw [h.1]; omega)]; exact m1, r⟩
/-- While pairs wait: the map of what was met, the pairs. -/
structure Cs (w wr : World) (mb : Nat) (v : Value) (L : List Pr) (ks : List Ky) : Prop where
  bel : Below w.heap.size w wr
  mp : IsMp wr mb ks
  mbB : w.heap.size ≤ mb
  own : OwnP wr w.heap.size v L
section
variable {w wr w' : World} {mb : Nat} {v : Value} {L : List Pr} {ks : List Ky}
theorem IsMp.lt (h : IsMp wr mb ks) : mb < wr.heap.size := (Array.getElem?_eq_some_iff.1 h).1
theorem Cs.later (h : Cs w wr mb v L ks) (hb : Below wr.heap.size wr w') : Cs w w' mb v L ks :=
  ⟨h.bel.trans (hb.mono h.bel.size), (hb.block _ h.mp.lt).trans h.mp, h.mbB, h.own.later hb⟩
theorem Cs.apart (h : Cs w wr mb v L ks) : v.ownBlock ≠ some mb := by
  intro e
  obtain ⟨_, ⟨rfl, _⟩ | ⟨g, cap, cur, rfl, hg, hh, _⟩⟩ := h.own
  · simp [Value.ownBlock] at e
  · simp [Value.ownBlock] at e
    subst e
    have := h.mp
    unfold IsMp at this
    rw [hh] at this
    cases this
theorem Clean.later {k : Nat} (h : Clean w k) (hb : Below w.heap.size w w') : Clean w' k := by
  obtain ⟨cs, t, h⟩ := h
  exact ⟨cs, t, (hb.block _ (Array.getElem?_eq_some_iff.1 h).1).trans h⟩
theorem Cs.put {k : Ky} (h : Cs w wr mb v L ks) (hm : IsMp w' mb (ks ++ [k])) (hz : w'.heap.size = wr.heap.size) (ho : ∀ g, g ≠ mb → w'.heap[g]? = wr.heap[g]?) (h1 : w'.os = wr.os) (h2 : w'.tape = wr.tape) (h3 : w'.output = wr.output) : Cs w w' mb v L (ks ++ [k]) :=
  ⟨⟨h1.trans h.bel.os, h2.trans h.bel.tape, h3.trans h.bel.output, by rw [hz]; exact h.bel.size, fun g hg => (ho g (by have := h.mbB; omega)).trans (h.bel.block g hg)⟩, hm, h.mbB, h.own.keep fun g hg _ => ho g (fun e => h.apart (by rw [hg, e]))⟩
theorem Cs.app {L' : List Pr} {v' : Value} (h : Cs w wr mb v L ks) (hg : wr.grownBy w' v.ownBlock) (ho : OwnP w' w.heap.size v' L') : Cs w w' mb v' L' ks :=
  ⟨h.bel.grown hg h.bel.size (fun g e => (h.own.lt e).1), (hg.block _ h.mp.lt (fun e => h.apart e.symm)).trans h.mp, h.mbB, ho⟩
end
end Go.Proofs.YthgbpofcfmnpdaaDoor
