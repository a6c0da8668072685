/- Small facts on lists that stay; conditions stand as hypotheses of each. -/
import Derived.Test.YtemglcdglnjakaaLwG
import Derived.Test.YtemglcdglnjakaaLwH
import Derived.Test.YtemglcdglnjakaaMsT
import Derived.Test.YtemglcdglnjakaaOpS
namespace Go.Proofs.Ytemglcdglnjakaa
open Go.ChangeShapes Go.WideShapes Go.ChangeAt Go.RowKit
set_option linter.unusedVariables false
set_option maxRecDepth 8000

theorem OwnT.rd1 {w : World} {B n c : Nat} {a : Option Addr} {ts : List Tk} (h : OwnT w B (.slice a n c) ts) : RdT w a ts := by
  obtain ⟨a', c', e, h'⟩ := h.rd
  cases e
  exact h'
theorem OwnS.later2 {w w' : World} {B g n c : Nat} {L : List ByteArray} (h : OwnS w B (.slice (some ⟨g, 0, none⟩) n c) L) (hb : Below w.heap.size w w') : OwnS w' B (.slice (some ⟨g, 0, none⟩) n c) L :=
  ownsRow_keepR h (fun b hg => hb.block b (World.ownsRow.lt h b hg).2)
theorem OwnS.rdu {w : World} {B g c : Nat} {L : List ByteArray} (h : OwnS w B (.slice (some ⟨g, 0, none⟩) L.length c) L) : RdU w (some ⟨g, 0, none⟩) L := by
  by_cases h0 : L = []
  · exact .inl h0
  · refine .inr ⟨g, 0, rfl, (World.ownsRow.lt h g rfl).2, fun i hi => ?_⟩
    rw [Nat.zero_add]
    exact h.cells i hi
end Go.Proofs.Ytemglcdglnjakaa
