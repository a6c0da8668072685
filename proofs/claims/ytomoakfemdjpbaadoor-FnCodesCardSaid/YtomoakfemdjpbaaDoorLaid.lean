/- What the listed table gives the walks, over this seat's translation; no condition but what stands as hypotheses. -/
import Derived.Test.YtomoakfemdjpbaaDoorRows
import Derived.Test.YtomoakfemdjpbaaDoorEncD
import Derived.Lib.LaidTab
import Derived.MakeChecks
namespace Go.Proofs.YtomoakfemdjpbaaDoor
open Go.ChangeShapes Go.WideShapes Go.ChangeAt Go.RowKit
set_option linter.unusedVariables false

theorem own : ownKnob Tryd.prog.godebug = none := by kernel_rfl
theorem laidOut : laidOutB Tryd.prog = true := by kernel_rfl
theorem gTab : Tryd.prog.globalNamed "loop.example/g00329/impl.firstWords" = some 0 := by kernel_rfl
theorem tTab : (Tryd.prog.globals[0]?).map (·.type) = some 79 := by kernel_rfl
theorem tabL_eq : (Rows.laid_loop_example_g00329_impl_firstWords : DataW Unit) = Lib.tabData .i64 baseL := by kernel_rfl
/-- What the list gives: the table's cells. -/
theorem tab_of_laid {W : World} (h : laidMetH Tryd.prog [("loop.example/g00329/impl.firstWords", Rows.laid_loop_example_g00329_impl_firstWords)] W) : Tab W := by
  rw [MakeChecks.laidMetH_plain _ _ _ (by kernel_rfl)] at h
  rw [tabL_eq] at h
  have h2 := Lib.tabIs_of_head gTab tTab Tryd.underlying79 Tryd.underlying3 (by kernel_rfl) (by kernel_rfl) h
  have hc : ∀ k, k < 24 → W.cell? ⟨0, k, none⟩ = some (.int .i64 (baseAt k)) := fun k hk => by
    have hk' : k < baseL.length := hk
    rw [h2.cell gTab k hk']; rfl
  exact ⟨World.block_lt_of_cell? W _ (hc 0 (by omega)), hc⟩
end Go.Proofs.YtomoakfemdjpbaaDoor
