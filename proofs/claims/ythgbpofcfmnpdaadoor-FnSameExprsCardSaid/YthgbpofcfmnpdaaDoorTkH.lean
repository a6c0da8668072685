/- A token that came in, read; what the listed tables give the walks; over this seat's translation; conditions stand as hypotheses of each. -/
import Derived.Test.YthgbpofcfmnpdaaDoorRows
import Derived.Test.YthgbpofcfmnpdaaDoorTkE
import Derived.Lib.SmallJoins
import Derived.Lib.LaidTab
import Derived.Stop.LaidErr
import Derived.MakeChecks
namespace Go.Proofs.YthgbpofcfmnpdaaDoor
open Go.ChangeShapes Go.WideShapes Go.ChangeAt Go.RowKit
set_option linter.unusedVariables false
set_option maxRecDepth 8000

theorem own : ownKnob Tryd.prog.godebug = none := by kernel_rfl
theorem laidOut : laidOutB Tryd.prog = true := by kernel_rfl
section
variable {H : Type} {enc : TypeId × Value → H} {W : World} {b0 base : Nat} {spare : TypeId → Bool} {held : Bool}
end

/-- A table of texts as a row lists it. -/
def strData {H : Type} (L : List ByteArray) : DataW H := .agg (L.map fun s => .lit (.string s.data.toList))
theorem cells_of_strs {H : Type} {enc : TypeId × Value → H} {P : Program} {w : World} {base : Nat} {sp : Nat → Bool} {held : Bool} {fuel : Nat} {t e : TypeId} {n : Nat} {cs : List Value} {L : List ByteArray} {p : List MemPlace}
    (ht : P.underlying t = some (.array n e)) (he : P.underlying e = some .string) (hce : P.cellsOf e = 1) (hct : P.cellsOf t = n)
    (h : DataW.trod enc P w base sp held fuel t cs = some (strData L, p)) : cs = L.map Value.string := by
  cases fuel with
  | zero => simp [DataW.trod] at h
  | succ fuel =>
    simp only [DataW.trod, ht, hce, hct, Nat.mul_one] at h
    split at h
    · rename_i hl
      obtain ⟨xs, hm, hx⟩ := Option.map_eq_some_iff.1 h
      have hxs : xs.map (·.1) = L.map fun s => (DataW.lit (.string s.data.toList) : DataW H) := by
        have := congrArg Prod.fst hx
        simpa [strData] using this
      have hxl : xs.length = n := by simpa using Lib.mapM_length hm
      have hzl : L.length = n := by
        have := congrArg List.length hxs
        simp at this
        omega
      apply List.ext_getElem?
      intro i
      by_cases hi : i < n
      · obtain ⟨b, hb, hf⟩ := Lib.mapM_at hm i i (by simp [hi])
        obtain ⟨z, hc, rfl, _⟩ := DataW.trod_string he hf
        have h1 : cs[i]? = some (.string z) := by
          have := congrArg (·[0]?) hc
          simpa [List.getElem?_take, List.getElem?_drop] using this
        have h2 : (xs.map (·.1))[i]? = some (DataW.lit (.string z.data.toList) : DataW H) := by simp [hb]
        rw [hxs] at h2
        simp only [List.getElem?_map, Option.map_eq_some_iff, DataW.lit.injEq, Lit.string.injEq] at h2
        obtain ⟨z', hz', e⟩ := h2
        obtain rfl := bytes_inj e
        simp [h1, hz']
      · rw [List.getElem?_eq_none (by omega), List.getElem?_eq_none (by simp; omega)]
    · cases h
theorem strs_of_head {P : Program} {W : World} {name : String} {L : List ByteArray} {rest : List (String × DataW Unit)} {g : Nat} {t e : TypeId} {n : Nat}
    (hg : P.globalNamed name = some g) (hty : (P.globals[g]?).map (·.type) = some t) (ht : P.underlying t = some (.array n e)) (he : P.underlying e = some .string) (hce : P.cellsOf e = 1) (hct : P.cellsOf t = n)
    (h : laidMet P ((name, strData L) :: rest) W) : ∃ u fr, W.heap[g]? = some (.cells (L.map Value.string).toArray u fr) := by
  obtain ⟨ps, ⟨g', t', cs, fuel, p, q, hg', ht', hvar, hd, _, _⟩, _⟩ := h
  obtain rfl := Option.some.inj (hg.symm.trans hg')
  obtain rfl := Option.some.inj (hty.symm.trans ht')
  have hcs := cells_of_strs ht he hce hct hd
  unfold World.var? at hvar
  rw [hg] at hvar
  simp only [Option.bind_some] at hvar
  split at hvar
  · rename_i c u fr hh
    cases hvar
    exact ⟨u, fr, by rw [hh, ← hcs]⟩
  · cases hvar
theorem gOp : Tryd.prog.globalNamed "loop.example/g00329/impl.opWords" = some 0 := by kernel_rfl
theorem tOp : (Tryd.prog.globals[0]?).map (·.type) = some 114 := by kernel_rfl
theorem gRg : Tryd.prog.globalNamed "loop.example/g00329/impl.regWords" = some 1 := by kernel_rfl
theorem tRg : (Tryd.prog.globals[1]?).map (·.type) = some 115 := by kernel_rfl
theorem opD_eq : (Rows.laid_loop_example_g00329_impl_opWords : DataW Unit) = strData opL := by kernel_rfl
theorem rgD_eq : (Rows.laid_loop_example_g00329_impl_regWords : DataW Unit) = strData wRg := by kernel_rfl
theorem tabK_of {W : World} (h : laidMet Tryd.prog [("loop.example/g00329/impl.opWords", Rows.laid_loop_example_g00329_impl_opWords), ("loop.example/g00329/impl.regWords", Rows.laid_loop_example_g00329_impl_regWords)] W) : TabK W := by
  rw [opD_eq, rgD_eq] at h
  exact ⟨strs_of_head gOp tOp Tryd.underlying114 Tryd.underlying9 (by kernel_rfl) (by kernel_rfl) h, strs_of_head gRg tRg Tryd.underlying115 Tryd.underlying9 (by kernel_rfl) (by kernel_rfl) h.tail⟩
theorem tab_of_laid {W : World} (h : laidMetH Tryd.prog [("loop.example/g00329/impl.opWords", Rows.laid_loop_example_g00329_impl_opWords), ("loop.example/g00329/impl.regWords", Rows.laid_loop_example_g00329_impl_regWords)] W) : TabK W := by
  rw [MakeChecks.laidMetH_plain _ _ _ (by kernel_rfl)] at h
  exact tabK_of h
end Go.Proofs.YthgbpofcfmnpdaaDoor
