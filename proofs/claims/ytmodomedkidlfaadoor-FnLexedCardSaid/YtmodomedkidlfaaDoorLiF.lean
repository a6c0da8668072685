/- A list of tokens that came in, read; the table that LineOf's way reads; over this seat's translation; conditions stand as hypotheses of each. -/
import Derived.Test.YtmodomedkidlfaaDoorTkH
import Derived.Test.YtmodomedkidlfaaDoorLiA
import Derived.Deep.Slices
namespace Go.Proofs.YtmodomedkidlfaaDoor
open Go.ChangeShapes Go.WideShapes Go.ChangeAt Go.RowKit
set_option linter.unusedVariables false
set_option maxRecDepth 8000

/-- What is known of a list that came in. -/
structure IsT (W : World) (a : Option Addr) (len : Nat) (ts : List Tk) : Prop where
  hlen : ts.length = len
  max : len ≤ 9223372036854775807
  each : ∀ i, i < len → (tAt ts i).s.size ≤ 9223372036854775807
  rd : RdT W a ts
section
variable {H : Type} {enc : TypeId × Value → H} {W : World} {b0 base : Nat} {spare : TypeId → Bool} {held : Bool}
theorem open_tks {r : Reach} {v : Value} {d : DataW H} {p : List MemPlace} (hv : Value.okWide Tryd.prog W r b0 41 v) (h : DataW.Trod enc Tryd.prog W base spare held 41 v d p) : ∃ a len cap ts, v = .slice a len cap ∧ IsT W a len ts := by
  obtain ⟨a, len, cap, rfl⟩ := okWide_slice Tryd.underlying41 hv
  obtain ⟨fuel, hf⟩ := h
  have hc : Tryd.prog.cellsOf 37 = 3 := by kernel_rfl
  rcases _root_.Go.Deep.open_slice Tryd.underlying41 hf with ⟨hcs, _⟩ | ⟨x, l, c, m, n, D, Pl, hcs, hb, hl, hm, hmm, hx, hel⟩
  · simp [Value.cells] at hcs
    obtain ⟨rfl, rfl, rfl⟩ := hcs
    exact ⟨none, 0, 0, [], rfl, rfl, by omega, fun i hi => by omega, .inl rfl⟩
  · simp [Value.cells] at hcs
    obtain ⟨rfl, rfl, rfl⟩ := hcs
    have hlm : len ≤ m := by rw [hmm]; split <;> omega
    have each : ∀ i, i < len → ∃ t : Tk, (W.cell? (x.add (i * 3)) = some (.int .i64 t.k) ∧ W.cell? (x.add (i * 3 + 1)) = some (.int .i64 t.n) ∧ W.cell? (x.add (i * 3 + 2)) = some (.string t.s)) ∧ t.s.size ≤ maxLen := fun i hi => by
      obtain ⟨cs', h1, h2⟩ := hel i (by omega)
      rw [hc] at h1
      obtain ⟨_, hlen, hcell⟩ := World.cells?_some h1
      obtain ⟨t, hcs', hm'⟩ := trod_tk h2
      refine ⟨t, ⟨?_, ?_, ?_⟩, hm'⟩
      · have e := hcell 0 (by omega); rw [_root_.Go.Deep.add_add, hcs'] at e; simpa using e
      · have e := hcell 1 (by omega); rw [_root_.Go.Deep.add_add, hcs'] at e; simpa using e
      · have e := hcell 2 (by omega); rw [_root_.Go.Deep.add_add, hcs'] at e; simpa using e
    obtain ⟨T, hT⟩ := @_root_.Go.Deep.choose_lt Tk ⟨T0⟩ _ _ each
    have hlen : ((List.range len).map T).length = len := by simp
    have hat : ∀ i, i < len → tAt ((List.range len).map T) i = T i := fun i hi => by
      unfold tAt
      rw [List.getD_eq_getElem?_getD, List.getElem?_map, List.getElem?_range hi]
      rfl
    refine ⟨some x, len, cap, (List.range len).map T, rfl, hlen, by unfold maxLen at hm; omega, fun i hi => by rw [hat i hi]; have := (hT i hi).2; unfold maxLen at this; omega, ?_⟩
    by_cases h0 : len = 0
    · subst h0; exact .inl rfl
    · right
      obtain ⟨b, off, spot⟩ := x
      have h00 := (hT 0 (by omega)).1.1
      have hspot : spot = none := by simpa [Addr.add] using World.cell?_spot h00
      subst hspot
      have hadd : ∀ j, (⟨b, off, none⟩ : Addr).add j = ⟨b, off + j, none⟩ := fun j => by
        unfold Addr.add
        by_cases hj : j = 0
        · subst hj; simp
        · simp [hj]
      refine ⟨b, off, rfl, World.block_lt_of_cell? W _ h00, fun i hi => ?_⟩
      rw [hlen] at hi
      rw [hat i hi]
      have h3 := (hT i hi).1
      rw [hadd, hadd, hadd] at h3
      exact h3
end
theorem gDb : Tryd.prog.globalNamed "math/bits.deBruijn64tab" = some 7 := by kernel_rfl
theorem tDb : (Tryd.prog.globals[7]?).map (·.type) = some 123 := by kernel_rfl
def dbT : List Int := [0, 1, 56, 2, 57, 49, 28, 3, 61, 58, 42, 50, 38, 29, 17, 4, 62, 47, 59, 36, 45, 43, 51, 22, 53, 39, 33, 30, 24, 18, 12, 5, 63, 55, 48, 27, 60, 41, 37, 16, 46, 35, 44, 21, 52, 32, 23, 11, 54, 26, 40, 15, 34, 20, 31, 10, 25, 14, 19, 9, 13, 8, 7, 6]
theorem dbT_eq : (Rows.laid_math_bits_deBruijn64tab : DataW Unit) = Lib.tabData .u8 dbT := by kernel_rfl
theorem db_of {W : World} {rest : List (String × DataW Unit)} (h : laidMet Tryd.prog (("math/bits.deBruijn64tab", Rows.laid_math_bits_deBruijn64tab) :: rest) W) : W.cell? ⟨7, 7, none⟩ = some (.int .u8 3) := by
  rw [dbT_eq] at h
  have h2 := Lib.tabIs_of_head gDb tDb Tryd.underlying123 Tryd.underlying5 (by kernel_rfl) (by kernel_rfl) h
  exact h2.cell gDb 7 (by decide)
theorem db_of_three {W : World} (h : laidMetH Tryd.prog [("math/bits.deBruijn32tab", Rows.laid_math_bits_deBruijn32tab), ("math/bits.deBruijn64tab", Rows.laid_math_bits_deBruijn64tab), ("internal/strconv.uint64pow10", Rows.laid_internal_strconv_uint64pow10)] W) : W.cell? ⟨7, 7, none⟩ = some (.int .u8 3) := by
  rw [MakeChecks.laidMetH_plain _ _ _ (by kernel_rfl)] at h
  exact db_of h.tail
end Go.Proofs.YtmodomedkidlfaaDoor
