/- Contracts of chapter 3's model and of the laws' copies of operands and instructions, over this seat's translation; conditions stand as hypotheses of each. -/
import Derived.Test.YtjpbjbnialehbaaInsA
import Derived.Laws.ResultCell
import Derived.Laws.Rows
namespace Go.Proofs.Ytjpbjbnialehbaa
open Go.ChangeShapes Go.WideShapes Go.ChangeAt Go.RowKit
set_option linter.unusedVariables false
set_option maxRecDepth 8000

set_option maxHeartbeats 1000000 in
theorem zero_any (o : Od) (w : World) : Calls Try.prog 77 #[o.v] w fun e w' => e = .returned (.bool o.zero) ∧ Below w.heap.size w w' := by
  obtain ⟨m, r, x⟩ := o
  unfold Od.zero Od.v
  simp only
  go_enter Try.func77, Try.ntmps77
  go_wp2
  all_goals go_ret
  all_goals refine ⟨?_, (Below.refl _ _).alloc (Nat.le_refl _) _⟩
  all_goals simp_all

end Go.Proofs.Ytjpbjbnialehbaa
