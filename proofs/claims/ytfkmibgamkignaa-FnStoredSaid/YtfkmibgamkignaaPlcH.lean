/- The laws' copies of places and operands, and two places held against each other; over this seat's translation; no condition. -/
import Derived.Test.YtfkmibgamkignaaPlcG
namespace Go.Proofs.Ytfkmibgamkignaa
open Go.ChangeShapes Go.WideShapes Go.ChangeAt Go.RowKit
set_option linter.unusedVariables false
set_option maxRecDepth 8000
set_option linter.unusedSimpArgs false

set_option maxHeartbeats 1000000 in
theorem eqPlace_any (r a : Int) (w : World) : Calls Try.prog 43 #[.agg #[.int .i64 r, .int .i64 a], .agg #[.int .i64 r, .int .i64 a]] w fun e w' => e = .returned (.bool true) ∧ Below w.heap.size w w' := by
  have hb : Below w.heap.size w ((w.alloc (.cells #[.int .i64 r, .int .i64 a] 44)).alloc (.cells #[.int .i64 r, .int .i64 a] 44)) := ((Below.refl _ _).alloc (Nat.le_refl _) _).alloc (by simp) _
  have HB := hide hb
  clear hb
  go_enter Try.func43, Try.ntmps43
  go_wp2
  go_ret
  exact ⟨rfl, unhide HB⟩
set_option maxHeartbeats 1000000 in
theorem toPlace_any (r a : Int) (w : World) : Calls Try.prog 44 #[.agg #[.int .i64 r, .int .i64 a]] w fun e w' => e = .returned (.agg #[.int .i64 r, .int .i64 a]) ∧ Below w.heap.size w w' := by
  have hb : Below w.heap.size w (((w.alloc (.cells #[.int .i64 r, .int .i64 a] 67)).alloc (.cells #[.int .i64 r, .int .i64 a] 44)).alloc (.cells #[.int .i64 r, .int .i64 a] 44)) := (((Below.refl _ _).alloc (Nat.le_refl _) _).alloc (by simp) _).alloc (by simp; omega) _
  have rw1 : (((w.alloc (.cells #[.int .i64 r, .int .i64 a] 67)).alloc (.cells #[.int .i64 r, .int .i64 a] 44)).alloc (.cells #[.int .i64 r, .int .i64 a] 44)).heap[w.heap.size + 1]? = some (.cells #[.int .i64 r, .int .i64 a] 44 (0, 0)) :=
    row_lat (by have := heap_alloc_last (w.alloc (.cells #[.int .i64 r, .int .i64 a] 67)) (.cells #[.int .i64 r, .int .i64 a] 44); simpa using this) (below_new _ _)
  have HB := hide hb
  have RW := hide rw1
  clear hb rw1
  go_enter Try.func44, Try.ntmps44
  go_wp2
  refine bodyPost_ret (results_cell_row (P := Try.prog) rfl _ _ (w.heap.size + 1) 44 #[.int .i64 r, .int .i64 a] (0, 0) _ rfl (unhide RW) Try.underlying44 rfl (by kernel_rfl)) rfl ?_
  exact ⟨rfl, unhide HB⟩
end Go.Proofs.Ytfkmibgamkignaa
