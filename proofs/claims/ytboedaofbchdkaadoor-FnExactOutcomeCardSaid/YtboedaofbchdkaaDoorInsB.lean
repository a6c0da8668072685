/- Contracts of chapter 3's model and of the laws' copies of operands and instructions, over this seat's translation; conditions stand as hypotheses of each. -/
import Derived.Test.YtboedaofbchdkaaDoorInsA
import Derived.Laws.ResultCell
import Derived.Laws.Rows
namespace Go.Proofs.YtboedaofbchdkaaDoor
open Go.ChangeShapes Go.WideShapes Go.ChangeAt Go.RowKit
set_option linter.unusedVariables false
set_option maxRecDepth 8000

end Go.Proofs.YtboedaofbchdkaaDoor
