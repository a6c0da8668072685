/- Terms held against each other: the same against itself, and the other way round. -/
import Derived.Test.YthgbpofcfmnpdaaDoorSmA
namespace Go.Proofs.YthgbpofcfmnpdaaDoor
set_option linter.unusedVariables false
theorem sameX_self (a : Ex) : sameX a a = true := (sameX_iff a a).2 rfl
theorem sameX_comm (a b : Ex) : sameX a b = sameX b a := by rw [Bool.eq_iff_iff, sameX_iff, sameX_iff]; exact ⟨Eq.symm, Eq.symm⟩
end Go.Proofs.YthgbpofcfmnpdaaDoor
