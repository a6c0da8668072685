/- Lists of texts and of terms that came in, read; over this seat's translation; conditions stand as hypotheses of each. -/
import Derived.Test.YtemglcdglnjakaaExD
import Derived.Test.YtemglcdglnjakaaStT
import Derived.SliceStrings
namespace Go.Proofs.Ytemglcdglnjakaa
open Go.ChangeShapes Go.WideShapes Go.ChangeAt Go.RowKit
set_option linter.unusedVariables false
set_option maxRecDepth 8000

/-- What is known of a list of texts that came in. -/
structure IsU (W : World) (a : Option Addr) (len : Nat) (L : List ByteArray) : Prop where
  hlen : L.length = len
  max : len ≤ 9223372036854775807
  each : ∀ i, i < len → (tAtS L i).size ≤ 9223372036854775807
  rd : RdU W a L
section
variable {H : Type} {enc : TypeId × Value → H} {W : World} {b0 base : Nat} {spare : TypeId → Bool} {held : Bool}
theorem open_strs {r : Reach} {v : Value} {d : DataW H} {p : List MemPlace} (hv : Value.okWide Try.prog W r b0 23 v) (h : DataW.Trod enc Try.prog W base spare held 23 v d p) : ∃ a len cap L, v = .slice a len cap ∧ IsU W a len L := by
  obtain ⟨a, len, cap, rfl⟩ := okWide_slice Try.underlying23 hv
  obtain ⟨fuel, hf⟩ := h
  rcases open_strings Try.underlying23 Try.underlying9 (by kernel_rfl) hf with ⟨hcs, _⟩ | ⟨x, l, c, ss, hcs, _, hl, hm, hz, _, hcell, hsz⟩
  · simp [Value.cells] at hcs
    obtain ⟨rfl, rfl, rfl⟩ := hcs
    exact ⟨none, 0, 0, [], rfl, rfl, by omega, fun i hi => by omega, .inl rfl⟩
  · simp [Value.cells] at hcs
    obtain ⟨rfl, rfl, rfl⟩ := hcs
    have hlz : len ≤ ss.length := by rw [hz]; split <;> omega
    have hL : (ss.take len).length = len := by simp; omega
    have hat : ∀ i, i < len → tAtS (ss.take len) i = ss.getD i ByteArray.empty := fun i hi => by
      unfold tAtS
      rw [List.getD_eq_getElem?_getD, List.getElem?_take_of_lt hi, List.getElem?_eq_getElem (by omega), List.getD_eq_getElem?_getD, List.getElem?_eq_getElem (by omega)]
      rfl
    have hmem : ∀ i, i < len → (ss.getD i ByteArray.empty).size ≤ maxLen := fun i hi => by
      rw [List.getD_eq_getElem?_getD, List.getElem?_eq_getElem (by omega)]
      exact hsz _ (List.getElem_mem _)
    refine ⟨some x, len, cap, ss.take len, rfl, hL, by unfold maxLen at hm; omega, fun i hi => by rw [hat i hi]; have := hmem i hi; unfold maxLen at this; omega, ?_⟩
    by_cases h0 : len = 0
    · subst h0; exact .inl (by simp)
    · right
      obtain ⟨b, off, spot⟩ := x
      have h00 := hcell 0 (by omega)
      have hspot : spot = none := by simpa [Addr.add] using World.cell?_spot h00
      subst hspot
      have hadd : ∀ j, (⟨b, off, none⟩ : Addr).add j = ⟨b, off + j, none⟩ := fun j => by
        unfold Addr.add
        by_cases hj : j = 0
        · subst hj; simp
        · simp [hj]
      refine ⟨b, off, rfl, World.block_lt_of_cell? W _ h00, fun i hi => ?_⟩
      rw [hL] at hi
      rw [hat i hi]
      have h3 := hcell i (by omega)
      rw [hadd] at h3
      exact h3
end
end Go.Proofs.Ytemglcdglnjakaa
