/- A list of lists of tokens that came in, read; over this seat's translation; conditions stand as hypotheses of each. -/
import Derived.Test.YtemglcdglnjakaaLwC
import Derived.Test.YtemglcdglnjakaaLiO
import Derived.Deep.Slices
namespace Go.Proofs.Ytemglcdglnjakaa
open Go.ChangeShapes Go.WideShapes Go.ChangeAt Go.RowKit
set_option linter.unusedVariables false
set_option maxRecDepth 8000
set_option linter.unusedSimpArgs false

section
variable {H : Type} {enc : TypeId × Value → H} {W : World} {b0 base : Nat} {spare : TypeId → Bool} {held : Bool}
theorem trod_tks (fuel : Nat) (cs : List Value) (x : DataW H × List MemPlace) (hf : DataW.trod enc Try.prog W base spare held fuel 22 cs = some x) : ∃ a len cap ts, cs = [.slice a len cap] ∧ IsT W a len ts := by
  have hc : Try.prog.cellsOf 44 = 3 := by kernel_rfl
  rcases _root_.Go.Deep.open_slice Try.underlying22 hf with ⟨hcs, _⟩ | ⟨x, l, c, m, n, D, Pl, hcs, hb, hl, hm, hmm, hx, hel⟩
  · exact ⟨none, 0, 0, [], hcs, rfl, by omega, fun i hi => by omega, .inl rfl⟩
  · have hlm : l ≤ m := by rw [hmm]; split <;> omega
    have each : ∀ i, i < l → ∃ t : Tk, (W.cell? (x.add (i * 3)) = some (.int .i64 t.k) ∧ W.cell? (x.add (i * 3 + 1)) = some (.int .i64 t.n) ∧ W.cell? (x.add (i * 3 + 2)) = some (.string t.s)) ∧ t.s.size ≤ maxLen := fun i hi => by
      obtain ⟨cs', h1, h2⟩ := hel i (by omega)
      rw [hc] at h1
      obtain ⟨_, hlen, hcell⟩ := World.cells?_some h1
      obtain ⟨t, hcs', hm'⟩ := trod_tk h2
      refine ⟨t, ⟨?_, ?_, ?_⟩, hm'⟩
      · have e := hcell 0 (by omega); rw [_root_.Go.Deep.add_add, hcs'] at e; simpa using e
      · have e := hcell 1 (by omega); rw [_root_.Go.Deep.add_add, hcs'] at e; simpa using e
      · have e := hcell 2 (by omega); rw [_root_.Go.Deep.add_add, hcs'] at e; simpa using e
    obtain ⟨T, hT⟩ := @_root_.Go.Deep.choose_lt Tk ⟨T0⟩ _ _ each
    have hlen : ((List.range l).map T).length = l := by simp
    have hat : ∀ i, i < l → tAt ((List.range l).map T) i = T i := fun i hi => by
      unfold tAt
      rw [List.getD_eq_getElem?_getD, List.getElem?_map, List.getElem?_range hi]
      rfl
    refine ⟨some x, l, c, (List.range l).map T, hcs, hlen, by unfold maxLen at hm; omega, fun i hi => by rw [hat i hi]; have := (hT i hi).2; unfold maxLen at this; omega, ?_⟩
    by_cases h0 : l = 0
    · subst h0; exact .inl rfl
    · right
      obtain ⟨b, off, spot⟩ := x
      have h00 := (hT 0 (by omega)).1.1
      have hspot : spot = none := by simpa [Addr.add] using World.cell?_spot h00
      subst hspot
      have hadd : ∀ j, (⟨b, off, none⟩ : Addr).add j = ⟨b, off + j, none⟩ := fun j => by
        unfold Addr.add
        by_cases hj : j = 0
        · subst hj; simp
        · simp [hj]
      refine ⟨b, off, rfl, World.block_lt_of_cell? W _ h00, fun i hi => ?_⟩
      rw [hlen] at hi
      rw [hat i hi]
      have h3 := (hT i hi).1
      rw [hadd, hadd, hadd] at h3
      exact h3
theorem open_tkss {r : Reach} {v : Value} {d : DataW H} {p : List MemPlace} (hv : Value.okWide Try.prog W r b0 24 v) (h : DataW.Trod enc Try.prog W base spare held 24 v d p) : ∃ a cap ps, v = .slice a ps.length cap ∧ RdR false W a ps ∧ FtR ps := by
  obtain ⟨a, len, cap, rfl⟩ := okWide_slice Try.underlying24 hv
  obtain ⟨fuel, hf⟩ := h
  have hc : Try.prog.cellsOf 22 = 1 := by kernel_rfl
  rcases _root_.Go.Deep.open_slice Try.underlying24 hf with ⟨hcs, _⟩ | ⟨x, l, c, m, n, D, Pl, hcs, hb, hl, hm, hmm, hx, hel⟩
  · simp [Value.cells] at hcs
    obtain ⟨rfl, rfl, rfl⟩ := hcs
    exact ⟨none, 0, [], rfl, .inl rfl, by simp, fun i hi => by simp at hi, fun i hi => by simp at hi⟩
  · simp [Value.cells] at hcs
    obtain ⟨rfl, rfl, rfl⟩ := hcs
    have hlm : len ≤ m := by rw [hmm]; split <;> omega
    have each : ∀ i, i < len → ∃ t : List Tk, (∃ b cp, W.cell? (x.add i) = some (.slice b t.length cp) ∧ RdT W b t) ∧ t.length ≤ 9223372036854775807 ∧ ∀ j, j < t.length → (tAt t j).s.size ≤ 9223372036854775807 := fun i hi => by
      obtain ⟨cs', h1, h2⟩ := hel i (by omega)
      rw [hc] at h1
      obtain ⟨_, hlen, hcell⟩ := World.cells?_some h1
      obtain ⟨b, ln, cp, t, hcs', ht⟩ := trod_tks _ _ _ h2
      have e := hcell 0 (by omega)
      rw [_root_.Go.Deep.add_add, hcs'] at e
      refine ⟨t, ⟨b, cp, ?_, ht.rd⟩, by rw [ht.hlen]; exact ht.max, fun j hj => ht.each j (by rw [← ht.hlen]; exact hj)⟩
      rw [ht.hlen]
      simpa using e
    obtain ⟨T, hT⟩ := @_root_.Go.Deep.choose_lt (List Tk) ⟨[]⟩ _ _ each
    have hlen : ((List.range len).map T).length = len := by simp
    have hat : ∀ i, i < len → rAt ((List.range len).map T) i = T i := fun i hi => by
      unfold rAt
      rw [List.getD_eq_getElem?_getD, List.getElem?_map, List.getElem?_range hi]
      rfl
    refine ⟨some x, cap, (List.range len).map T, by rw [hlen], ?_, by rw [hlen]; unfold maxLen at hm; omega, fun i hi => ?_, fun i hi j hj => ?_⟩
    · by_cases h0 : len = 0
      · subst h0; exact .inl rfl
      · right
        obtain ⟨b, off, spot⟩ := x
        obtain ⟨b0, cp0, h00, _⟩ := (hT 0 (by omega)).1
        have hspot : spot = none := by simpa [Addr.add] using World.cell?_spot h00
        subst hspot
        have hadd : ∀ j, (⟨b, off, none⟩ : Addr).add j = ⟨b, off + j, none⟩ := fun j => by
          unfold Addr.add
          by_cases hj : j = 0
          · subst hj; simp
          · simp [hj]
        refine ⟨b, off, rfl, World.block_lt_of_cell? W _ h00, fun i hi => ?_⟩
        rw [hlen] at hi
        rw [hat i hi]
        obtain ⟨b1, cp1, e1, e2⟩ := (hT i hi).1
        rw [hadd] at e1
        exact ⟨b1, cp1, e1, e2, fun e => by cases e⟩
    · rw [hlen] at hi
      rw [hat i hi]
      exact (hT i hi).2.1
    · rw [hlen] at hi
      rw [hat i hi] at hj ⊢
      exact (hT i hi).2.2 j hj
end
end Go.Proofs.Ytemglcdglnjakaa
