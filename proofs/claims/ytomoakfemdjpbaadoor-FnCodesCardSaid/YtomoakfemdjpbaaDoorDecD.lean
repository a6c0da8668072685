/- The program's instructions of fields, by form, over this seat's translation; conditions stand as hypotheses of each. -/
import Derived.Test.YtomoakfemdjpbaaDoorDecC
namespace Go.Proofs.YtomoakfemdjpbaaDoor
open Go.ChangeShapes Go.WideShapes Go.ChangeAt Go.RowKit
set_option linter.unusedVariables false
set_option linter.unusedSimpArgs false

set_option maxHeartbeats 1000000 in
theorem getTwo_any (f : Int) (w : World) : Calls Tryd.prog 55 #[.int .i64 f] w fun e w' => e = .returned (Is.v ⟨0, opdOf (f / 64), opdOf f, 0⟩) ∧ Below w.heap.size w w' := by
  have Z0 := hide (rz_new w)
  unfold Is.v
  simp only
  go_enter Tryd.func55, Tryd.ntmps55
  go_wp2_with fail
  refine (operandI_any (f / 64) _).mono ?_
  rintro e w1 ⟨rfl, hb⟩
  have Z1 := hide ((unhide Z0).later hb)
  clear hb Z0
  unfold opdOf Od.v
  simp only
  go_wp2_with fail
  refine (operandI_any (f) _).mono ?_
  rintro e w2 ⟨rfl, hb⟩
  have Z2 := hide ((unhide Z1).later hb)
  clear hb Z1
  unfold opdOf Od.v
  simp only
  have zz := unhide Z2
  have c0 : w2.cell? ⟨w.heap.size, 0, none⟩ = some (.int .i64 0) := zz.row.cell (i := 0) (by omega)
  have f0 := zz.row.frozen 0
  have c1 : w2.cell? ⟨w.heap.size, 1, none⟩ = some (.int .i64 0) := zz.row.cell (i := 1) (by omega)
  have f1 := zz.row.frozen 1
  have c2 : w2.cell? ⟨w.heap.size, 2, none⟩ = some (.int .i64 0) := zz.row.cell (i := 2) (by omega)
  have f2 := zz.row.frozen 2
  have c3 : w2.cell? ⟨w.heap.size, 3, none⟩ = some (.int .i64 0) := zz.row.cell (i := 3) (by omega)
  have f3 := zz.row.frozen 3
  have c4 : w2.cell? ⟨w.heap.size, 4, none⟩ = some (.int .i64 0) := zz.row.cell (i := 4) (by omega)
  have f4 := zz.row.frozen 4
  have c5 : w2.cell? ⟨w.heap.size, 5, none⟩ = some (.int .i64 0) := zz.row.cell (i := 5) (by omega)
  have f5 := zz.row.frozen 5
  have c6 : w2.cell? ⟨w.heap.size, 6, none⟩ = some (.int .i64 0) := zz.row.cell (i := 6) (by omega)
  have f6 := zz.row.frozen 6
  have c7 : w2.cell? ⟨w.heap.size, 7, none⟩ = some (.int .i64 0) := zz.row.cell (i := 7) (by omega)
  have f7 := zz.row.frozen 7
  clear zz
  go_wp2
  refine bodyPost_ret (results_cell_row (P := Tryd.prog) rfl _ _ w.heap.size 27 (cs8 [0, f / 64 / 8 % 8, f / 64 % 8, 0, f / 8 % 8, f % 8, 0, 0]) (0, 0) _ rfl (row8_heap ((unhide Z2).put (0) (f / 64 / 8 % 8) (f / 64 % 8) (0) (f / 8 % 8) (f % 8) (0) (0)).row) Tryd.underlying27 rfl (by kernel_rfl)) rfl ?_
  exact ⟨rfl, ((unhide Z2).put (0) (f / 64 / 8 % 8) (f / 64 % 8) (0) (f / 8 % 8) (f % 8) (0) (0)).bel⟩

set_option maxHeartbeats 1000000 in
theorem getOperand_any (f : Int) (w : World) : Calls Tryd.prog 57 #[.int .i64 f] w fun e w' => e = .returned (Is.v ⟨0, zO, opdOf f, 0⟩) ∧ Below w.heap.size w w' := by
  have Z0 := hide (rz_new w)
  unfold Is.v zO
  simp only
  go_enter Tryd.func57, Tryd.ntmps57
  go_wp2_with fail
  refine (operandI_any (f) _).mono ?_
  rintro e w1 ⟨rfl, hb⟩
  have Z1 := hide ((unhide Z0).later hb)
  clear hb Z0
  unfold opdOf Od.v
  simp only
  have zz := unhide Z1
  have c0 : w1.cell? ⟨w.heap.size, 0, none⟩ = some (.int .i64 0) := zz.row.cell (i := 0) (by omega)
  have f0 := zz.row.frozen 0
  have c1 : w1.cell? ⟨w.heap.size, 1, none⟩ = some (.int .i64 0) := zz.row.cell (i := 1) (by omega)
  have f1 := zz.row.frozen 1
  have c2 : w1.cell? ⟨w.heap.size, 2, none⟩ = some (.int .i64 0) := zz.row.cell (i := 2) (by omega)
  have f2 := zz.row.frozen 2
  have c3 : w1.cell? ⟨w.heap.size, 3, none⟩ = some (.int .i64 0) := zz.row.cell (i := 3) (by omega)
  have f3 := zz.row.frozen 3
  have c4 : w1.cell? ⟨w.heap.size, 4, none⟩ = some (.int .i64 0) := zz.row.cell (i := 4) (by omega)
  have f4 := zz.row.frozen 4
  have c5 : w1.cell? ⟨w.heap.size, 5, none⟩ = some (.int .i64 0) := zz.row.cell (i := 5) (by omega)
  have f5 := zz.row.frozen 5
  have c6 : w1.cell? ⟨w.heap.size, 6, none⟩ = some (.int .i64 0) := zz.row.cell (i := 6) (by omega)
  have f6 := zz.row.frozen 6
  have c7 : w1.cell? ⟨w.heap.size, 7, none⟩ = some (.int .i64 0) := zz.row.cell (i := 7) (by omega)
  have f7 := zz.row.frozen 7
  clear zz
  go_wp2
  refine bodyPost_ret (results_cell_row (P := Tryd.prog) rfl _ _ w.heap.size 27 (cs8 [0, 0, 0, 0, f / 8 % 8, f % 8, 0, 0]) (0, 0) _ rfl (row8_heap ((unhide Z1).put (0) (0) (0) (0) (f / 8 % 8) (f % 8) (0) (0)).row) Tryd.underlying27 rfl (by kernel_rfl)) rfl ?_
  exact ⟨rfl, ((unhide Z1).put (0) (0) (0) (0) (f / 8 % 8) (f % 8) (0) (0)).bel⟩

set_option maxHeartbeats 1000000 in
theorem getReg_any (f : Int) (w : World) : Calls Tryd.prog 59 #[.int .i64 f] w fun e w' => e = .returned (Is.v ⟨0, zO, opdOf f, f / 64⟩) ∧ Below w.heap.size w w' := by
  have Z0 := hide (rz_new w)
  unfold Is.v zO
  simp only
  go_enter Tryd.func59, Tryd.ntmps59
  go_wp2_with fail
  refine (operandI_any (f) _).mono ?_
  rintro e w1 ⟨rfl, hb⟩
  have Z1 := hide ((unhide Z0).later hb)
  clear hb Z0
  unfold opdOf Od.v
  simp only
  have zz := unhide Z1
  have c0 : w1.cell? ⟨w.heap.size, 0, none⟩ = some (.int .i64 0) := zz.row.cell (i := 0) (by omega)
  have f0 := zz.row.frozen 0
  have c1 : w1.cell? ⟨w.heap.size, 1, none⟩ = some (.int .i64 0) := zz.row.cell (i := 1) (by omega)
  have f1 := zz.row.frozen 1
  have c2 : w1.cell? ⟨w.heap.size, 2, none⟩ = some (.int .i64 0) := zz.row.cell (i := 2) (by omega)
  have f2 := zz.row.frozen 2
  have c3 : w1.cell? ⟨w.heap.size, 3, none⟩ = some (.int .i64 0) := zz.row.cell (i := 3) (by omega)
  have f3 := zz.row.frozen 3
  have c4 : w1.cell? ⟨w.heap.size, 4, none⟩ = some (.int .i64 0) := zz.row.cell (i := 4) (by omega)
  have f4 := zz.row.frozen 4
  have c5 : w1.cell? ⟨w.heap.size, 5, none⟩ = some (.int .i64 0) := zz.row.cell (i := 5) (by omega)
  have f5 := zz.row.frozen 5
  have c6 : w1.cell? ⟨w.heap.size, 6, none⟩ = some (.int .i64 0) := zz.row.cell (i := 6) (by omega)
  have f6 := zz.row.frozen 6
  have c7 : w1.cell? ⟨w.heap.size, 7, none⟩ = some (.int .i64 0) := zz.row.cell (i := 7) (by omega)
  have f7 := zz.row.frozen 7
  clear zz
  go_wp2
  refine bodyPost_ret (results_cell_row (P := Tryd.prog) rfl _ _ w.heap.size 27 (cs8 [0, 0, 0, 0, f / 8 % 8, f % 8, 0, f / 64]) (0, 0) _ rfl (row8_heap ((unhide Z1).put (0) (0) (0) (0) (f / 8 % 8) (f % 8) (0) (f / 64)).row) Tryd.underlying27 rfl (by kernel_rfl)) rfl ?_
  exact ⟨rfl, ((unhide Z1).put (0) (0) (0) (0) (f / 8 % 8) (f % 8) (0) (f / 64)).bel⟩

end Go.Proofs.YtomoakfemdjpbaaDoor
