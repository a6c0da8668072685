/- A list of tokens that came in, read; over this seat's translation; conditions stand as hypotheses of each. -/
import Derived.Test.YtemglcdglnjakaaTkO
import Derived.Test.YtemglcdglnjakaaLiA
import Derived.Deep.Slices
namespace Go.Proofs.Ytemglcdglnjakaa
open Go.ChangeShapes Go.WideShapes Go.ChangeAt Go.RowKit
set_option linter.unusedVariables false
set_option maxRecDepth 8000

/-- What is known of a list that came in. -/
structure IsT (W : World) (a : Option Addr) (len : Nat) (ts : List Tk) : Prop where
  hlen : ts.length = len
  max : len ≤ 9223372036854775807
  each : ∀ i, i < len → (tAt ts i).s.size ≤ 9223372036854775807
  rd : RdT W a ts
section
variable {H : Type} {enc : TypeId × Value → H} {W : World} {b0 base : Nat} {spare : TypeId → Bool} {held : Bool}
theorem open_tks {r : Reach} {v : Value} {d : DataW H} {p : List MemPlace} (hv : Value.okWide Try.prog W r b0 22 v) (h : DataW.Trod enc Try.prog W base spare held 22 v d p) : ∃ a len cap ts, v = .slice a len cap ∧ IsT W a len ts := by
  obtain ⟨a, len, cap, rfl⟩ := okWide_slice Try.underlying22 hv
  obtain ⟨fuel, hf⟩ := h
  have hc : Try.prog.cellsOf 44 = 3 := by kernel_rfl
  rcases _root_.Go.Deep.open_slice Try.underlying22 hf with ⟨hcs, _⟩ | ⟨x, l, c, m, n, D, Pl, hcs, hb, hl, hm, hmm, hx, hel⟩
  · simp [Value.cells] at hcs
    obtain ⟨rfl, rfl, rfl⟩ := hcs
    exact ⟨none, 0, 0, [], rfl, rfl, by omega, fun i hi => by omega, .inl rfl⟩
  · simp [Value.cells] at hcs
    obtain ⟨rfl, rfl, rfl⟩ := hcs
    have hlm : len ≤ m := by rw [hmm]; split <;> omega
    have each : ∀ i, i < len → ∃ t : Tk, (W.cell? (x.add (i * 3)) = some (.int .i64 t.k) ∧ W.cell? (x.add (i * 3 + 1)) = some (.int .i64 t.n) ∧ W.cell? (x.add (i * 3 + 2)) = some (.string t.s)) ∧ t.s.size ≤ maxLen := fun i hi => by
      obtain ⟨cs', h1, h2⟩ := hel i (by omega)
      rw [hc] at h1
      obtain ⟨_, hlen, hcell⟩ := World.cells?_some h1
      obtain ⟨t, hcs', hm'⟩ := trod_tk h2
      refine ⟨t, ⟨?_, ?_, ?_⟩, hm'⟩
      · have e := hcell 0 (by omega); rw [_root_.Go.Deep.add_add, hcs'] at e; simpa using e
      · have e := hcell 1 (by omega); rw [_root_.Go.Deep.add_add, hcs'] at e; simpa using e
      · have e := hcell 2 (by omega); rw [_root_.Go.Deep.add_add, hcs'] at e; simpa using e
    obtain ⟨T, hT⟩ := @_root_.Go.Deep.choose_lt Tk ⟨T0⟩ _ _ each
    have hlen : ((List.range len).map T).length = len := by simp
    have hat : ∀ i, i < len → tAt ((List.range len).map T) i = T i := fun i hi => by
      unfold tAt
      rw [List.getD_eq_getElem?_getD, List.getElem?_map, List.getElem?_range hi]
      rfl
    refine ⟨some x, len, cap, (List.range len).map T, rfl, hlen, by unfold maxLen at hm; omega, fun i hi => by rw [hat i hi]; have := (hT i hi).2; unfold maxLen at this; omega, ?_⟩
    by_cases h0 : len = 0
    · subst h0; exact .inl rfl
    · right
      obtain ⟨b, off, spot⟩ := x
      have h00 := (hT 0 (by omega)).1.1
      have hspot : spot = none := by simpa [Addr.add] using World.cell?_spot h00
      subst hspot
      have hadd : ∀ j, (⟨b, off, none⟩ : Addr).add j = ⟨b, off + j, none⟩ := fun j => by
        unfold Addr.add
        by_cases hj : j = 0
        · subst hj; simp
        · simp [hj]
      refine ⟨b, off, rfl, World.block_lt_of_cell? W _ h00, fun i hi => ?_⟩
      rw [hlen] at hi
      rw [hat i hi]
      have h3 := (hT i hi).1
      rw [hadd, hadd, hadd] at h3
      exact h3
end
end Go.Proofs.Ytemglcdglnjakaa
