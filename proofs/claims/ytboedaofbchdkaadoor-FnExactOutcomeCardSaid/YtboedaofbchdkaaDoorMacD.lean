/- Is a machine right: the model's answer and the program's, over this seat's translation; conditions stand as hypotheses of each. -/
import Derived.Test.YtboedaofbchdkaaDoorMacC
namespace Go.Proofs.YtboedaofbchdkaaDoor
open Go.ChangeShapes Go.WideShapes Go.ChangeAt Go.RowKit
set_option linter.unusedVariables false
set_option maxRecDepth 8000
set_option linter.unusedSimpArgs false

/-- Is the machine right? -/
def Md.ok (d : Md) (st : Int) : Bool :=
  ((d.m.length : Int) == 256) && (wdB d.m && (((d.r.length : Int) == 8) && (wdB d.r && (decide ((d.i.length : Int) ≤ 50) && (wdB d.i && (decide ((d.o.length : Int) ≤ 50) && (wdB d.o && inB st 0 2)))))))
theorem box_row (w : World) (x : Mv) (t : TypeId) : (w.alloc (.cells x.cs t)).heap[w.heap.size]? = some (.cells x.cs t (0, 0)) := heap_alloc_last w _

end Go.Proofs.YtboedaofbchdkaaDoor
