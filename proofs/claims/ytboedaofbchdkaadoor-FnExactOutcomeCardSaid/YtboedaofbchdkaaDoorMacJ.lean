/- Words at addresses: read by the program; over this seat's translation; conditions stand as hypotheses of each. -/
import Derived.Test.YtboedaofbchdkaaDoorMacI
namespace Go.Proofs.YtboedaofbchdkaaDoor
open Go.ChangeShapes Go.WideShapes Go.ChangeAt Go.RowKit
set_option linter.unusedVariables false
set_option maxRecDepth 8000
set_option linter.unusedSimpArgs false

theorem nAt_laid {ns mem : List Int} {k : Nat} (h : k < 256) (hk : k < ns.length) : nAt (laidM ns mem) k = nAt ns k := by
  unfold nAt laidM
  rw [List.getD_eq_getElem?_getD, List.getD_eq_getElem?_getD, List.getElem?_append_left (by rw [List.length_take]; omega), List.getElem?_take, if_pos h]

end Go.Proofs.YtboedaofbchdkaaDoor
