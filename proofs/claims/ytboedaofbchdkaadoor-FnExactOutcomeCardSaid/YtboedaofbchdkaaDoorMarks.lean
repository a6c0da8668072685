/- Contracts carried over to this seat by program, out of texts over another seat of the same commit; conditions stand as hypotheses of each. -/
import Derived.Test.YtboedaofbchdkaaDoorInts
namespace Go.Proofs.YtboedaofbchdkaaDoor
open Go.ChangeShapes Go.WideShapes Go.ChangeAt Go.RowKit
set_option linter.unusedVariables false
set_option maxRecDepth 8000

end Go.Proofs.YtboedaofbchdkaaDoor
