/- What the listed tables give the walks, over this seat's translation; no condition but what stands as hypotheses. -/
import Derived.Test.YtboedaofbchdkaaDoorRows
import Derived.Test.YtboedaofbchdkaaDoorOutD
import Derived.Test.YtboedaofbchdkaaDoorMacP
import Derived.Test.YtboedaofbchdkaaDoorLawB
import Derived.Test.YtboedaofbchdkaaDoorOpenM
import Derived.Lib.LaidTab
import Derived.Stop.LaidErr
import Derived.MakeChecks
namespace Go.Proofs.YtboedaofbchdkaaDoor
open Go.ChangeShapes Go.WideShapes Go.ChangeAt Go.RowKit
set_option linter.unusedVariables false
set_option maxRecDepth 8000

theorem ownO : ownKnob Tryd.prog.godebug = none := by kernel_rfl
theorem laidOutO : laidOutB Tryd.prog = true := by kernel_rfl
theorem gTabO : Tryd.prog.globalNamed "math/bits.deBruijn64tab" = some 3 := by kernel_rfl
theorem tTabO : (Tryd.prog.globals[3]?).map (·.type) = some 147 := by kernel_rfl
def tabO : List Int := [0, 1, 56, 2, 57, 49, 28, 3, 61, 58, 42, 50, 38, 29, 17, 4, 62, 47, 59, 36, 45, 43, 51, 22, 53, 39, 33, 30, 24, 18, 12, 5, 63, 55, 48, 27, 60, 41, 37, 16, 46, 35, 44, 21, 52, 32, 23, 11, 54, 26, 40, 15, 34, 20, 31, 10, 25, 14, 19, 9, 13, 8, 7, 6]
theorem tabO_eq : (Rows.laid_math_bits_deBruijn64tab : DataW Unit) = Lib.tabData .u8 tabO := by kernel_rfl
/-- What the list gives: the table's eighth cell. -/
theorem tab_of_laidO {W : World} (h : laidMetH Tryd.prog Rows.fnExactOutcomeRow.laid W) : W.cell? ⟨3, 7, none⟩ = some (.int .u8 3) := by
  rw [MakeChecks.laidMetH_plain _ _ _ (by kernel_rfl)] at h
  have h0 : laidMet Tryd.prog (("math/bits.deBruijn32tab", Rows.laid_math_bits_deBruijn32tab) :: ("math/bits.deBruijn64tab", Rows.laid_math_bits_deBruijn64tab) :: [("internal/strconv.uint64pow10", Rows.laid_internal_strconv_uint64pow10)]) W := h
  have h1 := h0.tail
  rw [tabO_eq] at h1
  have h2 := Lib.tabIs_of_head gTabO tTabO Tryd.underlying147 Tryd.underlying5 (by kernel_rfl) (by kernel_rfl) h1
  exact h2.cell gTabO 7 (by decide)
end Go.Proofs.YtboedaofbchdkaaDoor
