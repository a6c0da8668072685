/- The laws' copies and sizes of tokens; over this seat's translation; conditions stand as hypotheses of each. -/
import Derived.Test.YthgbpofcfmnpdaaDoorTkE
import Derived.Laws.ResultCell
import Derived.Laws.Rows
namespace Go.Proofs.YthgbpofcfmnpdaaDoor
open Go.ChangeShapes Go.WideShapes Go.ChangeAt Go.RowKit
set_option linter.unusedVariables false
set_option maxRecDepth 8000

end Go.Proofs.YthgbpofcfmnpdaaDoor
