/- Answers laid into two boxes, one behind the other; what PlaceOf keeps; over this seat's translation; conditions stand as hypotheses of each. -/
import Derived.Test.YtfkmibgamkignaaDrpC
import Derived.Test.YtfkmibgamkignaaLawG
import Derived.Test.YtfkmibgamkignaaLawE
namespace Go.Proofs.Ytfkmibgamkignaa
open Go.ChangeShapes Go.WideShapes Go.ChangeAt Go.RowKit
set_option linter.unusedVariables false
set_option maxRecDepth 8000
set_option linter.unusedSimpArgs false

/-- A machine and another struct, each laid into a box of its own. -/
def two (w : World) (z : Array Value) (t : TypeId) (cs ps : Array Value) : World := (((w.alloc (.cells zMv.cs 28)).alloc (.cells z t)).setRow w.heap.size cs).setRow (w.heap.size + 1) ps
section
variable (w : World) (z : Array Value) (t : TypeId) (cs ps : Array Value)
theorem two_m : (two w z t cs ps).heap[w.heap.size]? = some (.cells cs 28 (0, 0)) := ((bw_new w z t).done cs ps).1
theorem two_p : (two w z t cs ps).heap[w.heap.size + 1]? = some (.cells ps t (0, 0)) := ((bw_new w z t).done cs ps).2.1
theorem two_b : Below w.heap.size w (two w z t cs ps) := ((bw_new w z t).done cs ps).2.2
end
theorem pl_m (d : Md) (mo re : Nat) : (d.plD mo re).m = d.m := by
  unfold Md.plD Md.adD Md.fet Md.reg
  repeat' split
  all_goals rfl
theorem pc_m (d : Md) (st : Int) (o : Od) : (d.pcD st o).m = d.m := by
  unfold Md.pcD
  split
  · exact pl_m _ _ _
  · rfl
theorem Am.small {w : World} {B : Nat} {x : Mv} {d : Md} (h : Am w B x d) : x.small := small_mv h.rd h.sm
theorem pl_small {d : Md} (h : d.small) (st : Int) (o : Od) : (d.pcD st o).small := small_pc h st o
theorem row2_0 {w : World} {g : Nat} {a b : Int} {t : TypeId} (h : w.heap[g]? = some (.cells #[.int .i64 a, .int .i64 b] t (0, 0))) : w.cell? ⟨g, 0, none⟩ = some (.int .i64 a) := (cell_of_row w g 0 _ t _ h).trans rfl
theorem row2_1 {w : World} {g : Nat} {a b : Int} {t : TypeId} (h : w.heap[g]? = some (.cells #[.int .i64 a, .int .i64 b] t (0, 0))) : w.cell? ⟨g, 1, none⟩ = some (.int .i64 b) := (cell_of_row w g 1 _ t _ h).trans rfl
theorem st_small {d : Md} (h : d.small) (r a n : Int) : (d.stD r a n).small := by
  unfold Md.stD
  split
  · exact small_put h a n
  · split
    · exact ⟨h.1, by simpa using h.2.1, h.2.2.1, h.2.2.2⟩
    · exact h
end Go.Proofs.Ytfkmibgamkignaa
