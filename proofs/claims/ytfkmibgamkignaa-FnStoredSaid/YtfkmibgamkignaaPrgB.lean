/- A place of the program's machine: reached by a pointer; over this seat's translation; conditions stand as hypotheses of each. -/
import Derived.Test.YtfkmibgamkignaaPrgA
import Derived.Deep.RegionWith
namespace Go.Proofs.Ytfkmibgamkignaa
open Go.ChangeShapes Go.WideShapes Go.ChangeAt Go.RowKit
set_option linter.unusedVariables false
set_option maxRecDepth 8000
set_option linter.unusedSimpArgs false

set_option maxHeartbeats 4000000 in
theorem reach2 (g : Nat) (mem : List Int) (y : Mv) (w : World) (hm : mem.length = 256) (hg : w.heap[g]? = some (.cells (bigA mem y) 80 (0, 0))) (HR : Hid (∀ w, Calls Try.prog 94 #[.agg y.cs, .int .i64 (-1)] w fun e w' => e = .returned (.bool false) ∧ Below w.heap.size w w')) (HA : Hid (∀ w, Calls Try.prog 56 #[.agg y.cs, .int .i64 (-1)] w fun e w' => e = .returned (.bool false) ∧ Below w.heap.size w w')) :
    Calls Try.prog 73 #[.pointer (some ⟨g, 0, none⟩), .agg #[.int .i64 (-1), .int .i64 (-1)]] w fun e w' => e = .returned (.pointer (none)) ∧ Below w.heap.size w w' := by
  have HS := hide (box_below w (Obj.cells #[.int .i64 (-1), .int .i64 (-1)] 44))
  have HZ := hide (show w.heap.size + 1 ≤ (w.alloc (Obj.cells #[.int .i64 (-1), .int .i64 (-1)] 44)).heap.size by simp)
  have ne := Sub.ne (w.heap.size + 1) (w.alloc (Obj.cells #[.int .i64 (-1), .int .i64 (-1)] 44))
  have b0 : ∀ s : Sub (w.heap.size + 1) (w.alloc (Obj.cells #[.int .i64 (-1), .int .i64 (-1)] 44)), s.w.cell? ⟨w.heap.size, 0, none⟩ = some (.int .i64 (-1)) := fun s => s.cells 0 _ rfl
  have b1 : ∀ s : Sub (w.heap.size + 1) (w.alloc (Obj.cells #[.int .i64 (-1), .int .i64 (-1)] 44)), s.w.cell? ⟨w.heap.size, 1, none⟩ = some (.int .i64 (-1)) := fun s => s.cells 1 _ rfl
  have rw : ∀ s : Sub (w.heap.size + 1) (w.alloc (Obj.cells #[.int .i64 (-1), .int .i64 (-1)] 44)), s.w.heap[g]? = some (.cells (bigA mem y) 80 (0, 0)) := fun s => (s.h.block g (by have := row_lt hg; omega)).trans (row_lat hg (below_new w _))
  have c0 : ∀ s : Sub (w.heap.size + 1) (w.alloc (Obj.cells #[.int .i64 (-1), .int .i64 (-1)] 44)), s.w.cell? ⟨g, 256, none⟩ = some (.slice y.m.a y.m.n y.m.c) := fun s => big_cell (rw s) hm 0 _ rfl
  have c1 : ∀ s : Sub (w.heap.size + 1) (w.alloc (Obj.cells #[.int .i64 (-1), .int .i64 (-1)] 44)), s.w.cell? ⟨g, 257, none⟩ = some (.slice y.r.a y.r.n y.r.c) := fun s => big_cell (rw s) hm 1 _ rfl
  have c2 : ∀ s : Sub (w.heap.size + 1) (w.alloc (Obj.cells #[.int .i64 (-1), .int .i64 (-1)] 44)), s.w.cell? ⟨g, 258, none⟩ = some (.bool y.n) := fun s => big_cell (rw s) hm 2 _ rfl
  have c3 : ∀ s : Sub (w.heap.size + 1) (w.alloc (Obj.cells #[.int .i64 (-1), .int .i64 (-1)] 44)), s.w.cell? ⟨g, 259, none⟩ = some (.bool y.z) := fun s => big_cell (rw s) hm 3 _ rfl
  have c4 : ∀ s : Sub (w.heap.size + 1) (w.alloc (Obj.cells #[.int .i64 (-1), .int .i64 (-1)] 44)), s.w.cell? ⟨g, 260, none⟩ = some (.bool y.v) := fun s => big_cell (rw s) hm 4 _ rfl
  have c5 : ∀ s : Sub (w.heap.size + 1) (w.alloc (Obj.cells #[.int .i64 (-1), .int .i64 (-1)] 44)), s.w.cell? ⟨g, 261, none⟩ = some (.bool y.c) := fun s => big_cell (rw s) hm 5 _ rfl
  have c6 : ∀ s : Sub (w.heap.size + 1) (w.alloc (Obj.cells #[.int .i64 (-1), .int .i64 (-1)] 44)), s.w.cell? ⟨g, 262, none⟩ = some (.slice y.i.a y.i.n y.i.c) := fun s => big_cell (rw s) hm 6 _ rfl
  have c7 : ∀ s : Sub (w.heap.size + 1) (w.alloc (Obj.cells #[.int .i64 (-1), .int .i64 (-1)] 44)), s.w.cell? ⟨g, 263, none⟩ = some (.slice y.o.a y.o.n y.o.c) := fun s => big_cell (rw s) hm 7 _ rfl
  have c8 : ∀ s : Sub (w.heap.size + 1) (w.alloc (Obj.cells #[.int .i64 (-1), .int .i64 (-1)] 44)), s.w.cell? ⟨g, 264, none⟩ = some (.int .i64 y.st) := fun s => big_cell (rw s) hm 8 _ rfl
  clear rw
  clear hm hg
  go_enter Try.func73, Try.ntmps73
  go_wp2_with fail
  refine wp_region_sub (Sub.top w (Obj.cells #[.int .i64 (-1), .int .i64 (-1)] 44)) (by kernel_rfl) (by kernel_rfl) ?_
  repeat (go_big_quiet_step (first | (go_at_call 94; exact Sub.call (unhide HZ) (unhide HR _)) | (go_at_call 56; exact Sub.call (unhide HZ) (unhide HA _)) | (go_at_call 82; exact Sub.same (unhide CL _))))
  refine wpQuiet_nil ?_
  intro s
  go_wp2_with fail
  refine wp_region_sub s (by kernel_rfl) (by kernel_rfl) ?_
  repeat (go_big_quiet_step (first | (go_at_call 94; exact Sub.call (unhide HZ) (unhide HR _)) | (go_at_call 56; exact Sub.call (unhide HZ) (unhide HA _)) | (go_at_call 82; exact Sub.same (unhide CL _))))
  refine wpQuiet_nil ?_
  intro s
  go_wp2_with fail
  go_ret
  exact ⟨rfl, unhide HS _ s.h⟩
set_option maxHeartbeats 4000000 in
theorem reach3 (g : Nat) (r : Int) (mem : List Int) (y : Mv) (w : World) (hm : mem.length = 256) (hg : w.heap[g]? = some (.cells (bigA mem y) 80 (0, 0))) (h1 : r ≠ -1) (h1b : (r == -1) = false) (HR : Hid (∀ w, Calls Try.prog 94 #[.agg y.cs, .int .i64 r] w fun e w' => e = .returned (.bool false) ∧ Below w.heap.size w w')) :
    Calls Try.prog 73 #[.pointer (some ⟨g, 0, none⟩), .agg #[.int .i64 r, .int .i64 (-1)]] w fun e w' => e = .returned (.pointer (none)) ∧ Below w.heap.size w w' := by
  have HS := hide (box_below w (Obj.cells #[.int .i64 r, .int .i64 (-1)] 44))
  have HZ := hide (show w.heap.size + 1 ≤ (w.alloc (Obj.cells #[.int .i64 r, .int .i64 (-1)] 44)).heap.size by simp)
  have ne := Sub.ne (w.heap.size + 1) (w.alloc (Obj.cells #[.int .i64 r, .int .i64 (-1)] 44))
  have b0 : ∀ s : Sub (w.heap.size + 1) (w.alloc (Obj.cells #[.int .i64 r, .int .i64 (-1)] 44)), s.w.cell? ⟨w.heap.size, 0, none⟩ = some (.int .i64 r) := fun s => s.cells 0 _ rfl
  have b1 : ∀ s : Sub (w.heap.size + 1) (w.alloc (Obj.cells #[.int .i64 r, .int .i64 (-1)] 44)), s.w.cell? ⟨w.heap.size, 1, none⟩ = some (.int .i64 (-1)) := fun s => s.cells 1 _ rfl
  have rw : ∀ s : Sub (w.heap.size + 1) (w.alloc (Obj.cells #[.int .i64 r, .int .i64 (-1)] 44)), s.w.heap[g]? = some (.cells (bigA mem y) 80 (0, 0)) := fun s => (s.h.block g (by have := row_lt hg; omega)).trans (row_lat hg (below_new w _))
  have c0 : ∀ s : Sub (w.heap.size + 1) (w.alloc (Obj.cells #[.int .i64 r, .int .i64 (-1)] 44)), s.w.cell? ⟨g, 256, none⟩ = some (.slice y.m.a y.m.n y.m.c) := fun s => big_cell (rw s) hm 0 _ rfl
  have c1 : ∀ s : Sub (w.heap.size + 1) (w.alloc (Obj.cells #[.int .i64 r, .int .i64 (-1)] 44)), s.w.cell? ⟨g, 257, none⟩ = some (.slice y.r.a y.r.n y.r.c) := fun s => big_cell (rw s) hm 1 _ rfl
  have c2 : ∀ s : Sub (w.heap.size + 1) (w.alloc (Obj.cells #[.int .i64 r, .int .i64 (-1)] 44)), s.w.cell? ⟨g, 258, none⟩ = some (.bool y.n) := fun s => big_cell (rw s) hm 2 _ rfl
  have c3 : ∀ s : Sub (w.heap.size + 1) (w.alloc (Obj.cells #[.int .i64 r, .int .i64 (-1)] 44)), s.w.cell? ⟨g, 259, none⟩ = some (.bool y.z) := fun s => big_cell (rw s) hm 3 _ rfl
  have c4 : ∀ s : Sub (w.heap.size + 1) (w.alloc (Obj.cells #[.int .i64 r, .int .i64 (-1)] 44)), s.w.cell? ⟨g, 260, none⟩ = some (.bool y.v) := fun s => big_cell (rw s) hm 4 _ rfl
  have c5 : ∀ s : Sub (w.heap.size + 1) (w.alloc (Obj.cells #[.int .i64 r, .int .i64 (-1)] 44)), s.w.cell? ⟨g, 261, none⟩ = some (.bool y.c) := fun s => big_cell (rw s) hm 5 _ rfl
  have c6 : ∀ s : Sub (w.heap.size + 1) (w.alloc (Obj.cells #[.int .i64 r, .int .i64 (-1)] 44)), s.w.cell? ⟨g, 262, none⟩ = some (.slice y.i.a y.i.n y.i.c) := fun s => big_cell (rw s) hm 6 _ rfl
  have c7 : ∀ s : Sub (w.heap.size + 1) (w.alloc (Obj.cells #[.int .i64 r, .int .i64 (-1)] 44)), s.w.cell? ⟨g, 263, none⟩ = some (.slice y.o.a y.o.n y.o.c) := fun s => big_cell (rw s) hm 7 _ rfl
  have c8 : ∀ s : Sub (w.heap.size + 1) (w.alloc (Obj.cells #[.int .i64 r, .int .i64 (-1)] 44)), s.w.cell? ⟨g, 264, none⟩ = some (.int .i64 y.st) := fun s => big_cell (rw s) hm 8 _ rfl
  clear rw
  clear hm hg
  go_enter Try.func73, Try.ntmps73
  go_wp2_with fail
  refine wp_region_sub (Sub.top w (Obj.cells #[.int .i64 r, .int .i64 (-1)] 44)) (by kernel_rfl) (by kernel_rfl) ?_
  repeat (go_big_quiet_step (first | (go_at_call 94; exact Sub.call (unhide HZ) (unhide HR _)) | (go_at_call 56; exact Sub.call (unhide HZ) (unhide HA _)) | (go_at_call 82; exact Sub.same (unhide CL _))))
  refine wpQuiet_nil ?_
  intro s
  go_wp2_with fail
  refine wp_region_sub s (by kernel_rfl) (by kernel_rfl) ?_
  repeat (go_big_quiet_step (first | (go_at_call 94; exact Sub.call (unhide HZ) (unhide HR _)) | (go_at_call 56; exact Sub.call (unhide HZ) (unhide HA _)) | (go_at_call 82; exact Sub.same (unhide CL _))))
  refine wpQuiet_nil ?_
  intro s
  go_wp2_with fail
  go_ret
  exact ⟨rfl, unhide HS _ s.h⟩
set_option maxHeartbeats 4000000 in
theorem reach4 (g : Nat) (a : Int) (mem : List Int) (y : Mv) (w : World) (hm : mem.length = 256) (hg : w.heap[g]? = some (.cells (bigA mem y) 80 (0, 0))) (k : Nat) (h2 : a ≠ -1) (h2b : (a == -1) = false) (HA : Hid (∀ w, Calls Try.prog 56 #[.agg y.cs, .int .i64 a] w fun e w' => e = .returned (.bool true) ∧ Below w.heap.size w w')) (CL : Hid (∀ w, Calls Try.prog 82 #[.pointer (some ⟨g, 0, none⟩), .int .i64 a] w fun e w' => e = .returned (.pointer (some ⟨g, k, none⟩)) ∧ w' = w)) :
    Calls Try.prog 73 #[.pointer (some ⟨g, 0, none⟩), .agg #[.int .i64 (-1), .int .i64 a]] w fun e w' => e = .returned (.pointer (some ⟨g, k, none⟩)) ∧ Below w.heap.size w w' := by
  have HS := hide (box_below w (Obj.cells #[.int .i64 (-1), .int .i64 a] 44))
  have HZ := hide (show w.heap.size + 1 ≤ (w.alloc (Obj.cells #[.int .i64 (-1), .int .i64 a] 44)).heap.size by simp)
  have ne := Sub.ne (w.heap.size + 1) (w.alloc (Obj.cells #[.int .i64 (-1), .int .i64 a] 44))
  have b0 : ∀ s : Sub (w.heap.size + 1) (w.alloc (Obj.cells #[.int .i64 (-1), .int .i64 a] 44)), s.w.cell? ⟨w.heap.size, 0, none⟩ = some (.int .i64 (-1)) := fun s => s.cells 0 _ rfl
  have b1 : ∀ s : Sub (w.heap.size + 1) (w.alloc (Obj.cells #[.int .i64 (-1), .int .i64 a] 44)), s.w.cell? ⟨w.heap.size, 1, none⟩ = some (.int .i64 a) := fun s => s.cells 1 _ rfl
  have rw : ∀ s : Sub (w.heap.size + 1) (w.alloc (Obj.cells #[.int .i64 (-1), .int .i64 a] 44)), s.w.heap[g]? = some (.cells (bigA mem y) 80 (0, 0)) := fun s => (s.h.block g (by have := row_lt hg; omega)).trans (row_lat hg (below_new w _))
  have c0 : ∀ s : Sub (w.heap.size + 1) (w.alloc (Obj.cells #[.int .i64 (-1), .int .i64 a] 44)), s.w.cell? ⟨g, 256, none⟩ = some (.slice y.m.a y.m.n y.m.c) := fun s => big_cell (rw s) hm 0 _ rfl
  have c1 : ∀ s : Sub (w.heap.size + 1) (w.alloc (Obj.cells #[.int .i64 (-1), .int .i64 a] 44)), s.w.cell? ⟨g, 257, none⟩ = some (.slice y.r.a y.r.n y.r.c) := fun s => big_cell (rw s) hm 1 _ rfl
  have c2 : ∀ s : Sub (w.heap.size + 1) (w.alloc (Obj.cells #[.int .i64 (-1), .int .i64 a] 44)), s.w.cell? ⟨g, 258, none⟩ = some (.bool y.n) := fun s => big_cell (rw s) hm 2 _ rfl
  have c3 : ∀ s : Sub (w.heap.size + 1) (w.alloc (Obj.cells #[.int .i64 (-1), .int .i64 a] 44)), s.w.cell? ⟨g, 259, none⟩ = some (.bool y.z) := fun s => big_cell (rw s) hm 3 _ rfl
  have c4 : ∀ s : Sub (w.heap.size + 1) (w.alloc (Obj.cells #[.int .i64 (-1), .int .i64 a] 44)), s.w.cell? ⟨g, 260, none⟩ = some (.bool y.v) := fun s => big_cell (rw s) hm 4 _ rfl
  have c5 : ∀ s : Sub (w.heap.size + 1) (w.alloc (Obj.cells #[.int .i64 (-1), .int .i64 a] 44)), s.w.cell? ⟨g, 261, none⟩ = some (.bool y.c) := fun s => big_cell (rw s) hm 5 _ rfl
  have c6 : ∀ s : Sub (w.heap.size + 1) (w.alloc (Obj.cells #[.int .i64 (-1), .int .i64 a] 44)), s.w.cell? ⟨g, 262, none⟩ = some (.slice y.i.a y.i.n y.i.c) := fun s => big_cell (rw s) hm 6 _ rfl
  have c7 : ∀ s : Sub (w.heap.size + 1) (w.alloc (Obj.cells #[.int .i64 (-1), .int .i64 a] 44)), s.w.cell? ⟨g, 263, none⟩ = some (.slice y.o.a y.o.n y.o.c) := fun s => big_cell (rw s) hm 7 _ rfl
  have c8 : ∀ s : Sub (w.heap.size + 1) (w.alloc (Obj.cells #[.int .i64 (-1), .int .i64 a] 44)), s.w.cell? ⟨g, 264, none⟩ = some (.int .i64 y.st) := fun s => big_cell (rw s) hm 8 _ rfl
  clear rw
  clear hm hg
  go_enter Try.func73, Try.ntmps73
  go_wp2_with fail
  refine wp_region_sub (Sub.top w (Obj.cells #[.int .i64 (-1), .int .i64 a] 44)) (by kernel_rfl) (by kernel_rfl) ?_
  repeat (go_big_quiet_step (first | (go_at_call 94; exact Sub.call (unhide HZ) (unhide HR _)) | (go_at_call 56; exact Sub.call (unhide HZ) (unhide HA _)) | (go_at_call 82; exact Sub.same (unhide CL _))))
  refine wpQuiet_nil ?_
  intro s
  go_wp2_with fail
  refine wp_region_sub s (by kernel_rfl) (by kernel_rfl) ?_
  repeat (go_big_quiet_step (first | (go_at_call 94; exact Sub.call (unhide HZ) (unhide HR _)) | (go_at_call 56; exact Sub.call (unhide HZ) (unhide HA _)) | (go_at_call 82; exact Sub.same (unhide CL _))))
  refine wpQuiet_nil ?_
  intro s
  go_wp2_with fail
  refine wp_region_sub s (by kernel_rfl) (by kernel_rfl) ?_
  repeat (go_big_quiet_step (first | (go_at_call 94; exact Sub.call (unhide HZ) (unhide HR _)) | (go_at_call 56; exact Sub.call (unhide HZ) (unhide HA _)) | (go_at_call 82; exact Sub.same (unhide CL _))))
  refine wpQuiet_nil ?_
  intro s
  go_wp2_with fail
  go_ret
  exact ⟨rfl, unhide HS _ s.h⟩
set_option maxHeartbeats 4000000 in
theorem reach5 (g : Nat) (a : Int) (mem : List Int) (y : Mv) (w : World) (hm : mem.length = 256) (hg : w.heap[g]? = some (.cells (bigA mem y) 80 (0, 0))) (h2 : a ≠ -1) (h2b : (a == -1) = false) (HA : Hid (∀ w, Calls Try.prog 56 #[.agg y.cs, .int .i64 a] w fun e w' => e = .returned (.bool false) ∧ Below w.heap.size w w')) :
    Calls Try.prog 73 #[.pointer (some ⟨g, 0, none⟩), .agg #[.int .i64 (-1), .int .i64 a]] w fun e w' => e = .returned (.pointer (none)) ∧ Below w.heap.size w w' := by
  have HS := hide (box_below w (Obj.cells #[.int .i64 (-1), .int .i64 a] 44))
  have HZ := hide (show w.heap.size + 1 ≤ (w.alloc (Obj.cells #[.int .i64 (-1), .int .i64 a] 44)).heap.size by simp)
  have ne := Sub.ne (w.heap.size + 1) (w.alloc (Obj.cells #[.int .i64 (-1), .int .i64 a] 44))
  have b0 : ∀ s : Sub (w.heap.size + 1) (w.alloc (Obj.cells #[.int .i64 (-1), .int .i64 a] 44)), s.w.cell? ⟨w.heap.size, 0, none⟩ = some (.int .i64 (-1)) := fun s => s.cells 0 _ rfl
  have b1 : ∀ s : Sub (w.heap.size + 1) (w.alloc (Obj.cells #[.int .i64 (-1), .int .i64 a] 44)), s.w.cell? ⟨w.heap.size, 1, none⟩ = some (.int .i64 a) := fun s => s.cells 1 _ rfl
  have rw : ∀ s : Sub (w.heap.size + 1) (w.alloc (Obj.cells #[.int .i64 (-1), .int .i64 a] 44)), s.w.heap[g]? = some (.cells (bigA mem y) 80 (0, 0)) := fun s => (s.h.block g (by have := row_lt hg; omega)).trans (row_lat hg (below_new w _))
  have c0 : ∀ s : Sub (w.heap.size + 1) (w.alloc (Obj.cells #[.int .i64 (-1), .int .i64 a] 44)), s.w.cell? ⟨g, 256, none⟩ = some (.slice y.m.a y.m.n y.m.c) := fun s => big_cell (rw s) hm 0 _ rfl
  have c1 : ∀ s : Sub (w.heap.size + 1) (w.alloc (Obj.cells #[.int .i64 (-1), .int .i64 a] 44)), s.w.cell? ⟨g, 257, none⟩ = some (.slice y.r.a y.r.n y.r.c) := fun s => big_cell (rw s) hm 1 _ rfl
  have c2 : ∀ s : Sub (w.heap.size + 1) (w.alloc (Obj.cells #[.int .i64 (-1), .int .i64 a] 44)), s.w.cell? ⟨g, 258, none⟩ = some (.bool y.n) := fun s => big_cell (rw s) hm 2 _ rfl
  have c3 : ∀ s : Sub (w.heap.size + 1) (w.alloc (Obj.cells #[.int .i64 (-1), .int .i64 a] 44)), s.w.cell? ⟨g, 259, none⟩ = some (.bool y.z) := fun s => big_cell (rw s) hm 3 _ rfl
  have c4 : ∀ s : Sub (w.heap.size + 1) (w.alloc (Obj.cells #[.int .i64 (-1), .int .i64 a] 44)), s.w.cell? ⟨g, 260, none⟩ = some (.bool y.v) := fun s => big_cell (rw s) hm 4 _ rfl
  have c5 : ∀ s : Sub (w.heap.size + 1) (w.alloc (Obj.cells #[.int .i64 (-1), .int .i64 a] 44)), s.w.cell? ⟨g, 261, none⟩ = some (.bool y.c) := fun s => big_cell (rw s) hm 5 _ rfl
  have c6 : ∀ s : Sub (w.heap.size + 1) (w.alloc (Obj.cells #[.int .i64 (-1), .int .i64 a] 44)), s.w.cell? ⟨g, 262, none⟩ = some (.slice y.i.a y.i.n y.i.c) := fun s => big_cell (rw s) hm 6 _ rfl
  have c7 : ∀ s : Sub (w.heap.size + 1) (w.alloc (Obj.cells #[.int .i64 (-1), .int .i64 a] 44)), s.w.cell? ⟨g, 263, none⟩ = some (.slice y.o.a y.o.n y.o.c) := fun s => big_cell (rw s) hm 7 _ rfl
  have c8 : ∀ s : Sub (w.heap.size + 1) (w.alloc (Obj.cells #[.int .i64 (-1), .int .i64 a] 44)), s.w.cell? ⟨g, 264, none⟩ = some (.int .i64 y.st) := fun s => big_cell (rw s) hm 8 _ rfl
  clear rw
  clear hm hg
  go_enter Try.func73, Try.ntmps73
  go_wp2_with fail
  refine wp_region_sub (Sub.top w (Obj.cells #[.int .i64 (-1), .int .i64 a] 44)) (by kernel_rfl) (by kernel_rfl) ?_
  repeat (go_big_quiet_step (first | (go_at_call 94; exact Sub.call (unhide HZ) (unhide HR _)) | (go_at_call 56; exact Sub.call (unhide HZ) (unhide HA _)) | (go_at_call 82; exact Sub.same (unhide CL _))))
  refine wpQuiet_nil ?_
  intro s
  go_wp2_with fail
  refine wp_region_sub s (by kernel_rfl) (by kernel_rfl) ?_
  repeat (go_big_quiet_step (first | (go_at_call 94; exact Sub.call (unhide HZ) (unhide HR _)) | (go_at_call 56; exact Sub.call (unhide HZ) (unhide HA _)) | (go_at_call 82; exact Sub.same (unhide CL _))))
  refine wpQuiet_nil ?_
  intro s
  go_wp2_with fail
  go_ret
  exact ⟨rfl, unhide HS _ s.h⟩
set_option maxHeartbeats 4000000 in
theorem reach6 (g : Nat) (r : Int) (a : Int) (mem : List Int) (y : Mv) (w : World) (hm : mem.length = 256) (hg : w.heap[g]? = some (.cells (bigA mem y) 80 (0, 0))) (h1 : r ≠ -1) (h1b : (r == -1) = false) (h2 : a ≠ -1) (h2b : (a == -1) = false) :
    Calls Try.prog 73 #[.pointer (some ⟨g, 0, none⟩), .agg #[.int .i64 r, .int .i64 a]] w fun e w' => e = .returned (.pointer (none)) ∧ Below w.heap.size w w' := by
  have HS := hide (box_below w (Obj.cells #[.int .i64 r, .int .i64 a] 44))
  have HZ := hide (show w.heap.size + 1 ≤ (w.alloc (Obj.cells #[.int .i64 r, .int .i64 a] 44)).heap.size by simp)
  have ne := Sub.ne (w.heap.size + 1) (w.alloc (Obj.cells #[.int .i64 r, .int .i64 a] 44))
  have b0 : ∀ s : Sub (w.heap.size + 1) (w.alloc (Obj.cells #[.int .i64 r, .int .i64 a] 44)), s.w.cell? ⟨w.heap.size, 0, none⟩ = some (.int .i64 r) := fun s => s.cells 0 _ rfl
  have b1 : ∀ s : Sub (w.heap.size + 1) (w.alloc (Obj.cells #[.int .i64 r, .int .i64 a] 44)), s.w.cell? ⟨w.heap.size, 1, none⟩ = some (.int .i64 a) := fun s => s.cells 1 _ rfl
  have rw : ∀ s : Sub (w.heap.size + 1) (w.alloc (Obj.cells #[.int .i64 r, .int .i64 a] 44)), s.w.heap[g]? = some (.cells (bigA mem y) 80 (0, 0)) := fun s => (s.h.block g (by have := row_lt hg; omega)).trans (row_lat hg (below_new w _))
  have c0 : ∀ s : Sub (w.heap.size + 1) (w.alloc (Obj.cells #[.int .i64 r, .int .i64 a] 44)), s.w.cell? ⟨g, 256, none⟩ = some (.slice y.m.a y.m.n y.m.c) := fun s => big_cell (rw s) hm 0 _ rfl
  have c1 : ∀ s : Sub (w.heap.size + 1) (w.alloc (Obj.cells #[.int .i64 r, .int .i64 a] 44)), s.w.cell? ⟨g, 257, none⟩ = some (.slice y.r.a y.r.n y.r.c) := fun s => big_cell (rw s) hm 1 _ rfl
  have c2 : ∀ s : Sub (w.heap.size + 1) (w.alloc (Obj.cells #[.int .i64 r, .int .i64 a] 44)), s.w.cell? ⟨g, 258, none⟩ = some (.bool y.n) := fun s => big_cell (rw s) hm 2 _ rfl
  have c3 : ∀ s : Sub (w.heap.size + 1) (w.alloc (Obj.cells #[.int .i64 r, .int .i64 a] 44)), s.w.cell? ⟨g, 259, none⟩ = some (.bool y.z) := fun s => big_cell (rw s) hm 3 _ rfl
  have c4 : ∀ s : Sub (w.heap.size + 1) (w.alloc (Obj.cells #[.int .i64 r, .int .i64 a] 44)), s.w.cell? ⟨g, 260, none⟩ = some (.bool y.v) := fun s => big_cell (rw s) hm 4 _ rfl
  have c5 : ∀ s : Sub (w.heap.size + 1) (w.alloc (Obj.cells #[.int .i64 r, .int .i64 a] 44)), s.w.cell? ⟨g, 261, none⟩ = some (.bool y.c) := fun s => big_cell (rw s) hm 5 _ rfl
  have c6 : ∀ s : Sub (w.heap.size + 1) (w.alloc (Obj.cells #[.int .i64 r, .int .i64 a] 44)), s.w.cell? ⟨g, 262, none⟩ = some (.slice y.i.a y.i.n y.i.c) := fun s => big_cell (rw s) hm 6 _ rfl
  have c7 : ∀ s : Sub (w.heap.size + 1) (w.alloc (Obj.cells #[.int .i64 r, .int .i64 a] 44)), s.w.cell? ⟨g, 263, none⟩ = some (.slice y.o.a y.o.n y.o.c) := fun s => big_cell (rw s) hm 7 _ rfl
  have c8 : ∀ s : Sub (w.heap.size + 1) (w.alloc (Obj.cells #[.int .i64 r, .int .i64 a] 44)), s.w.cell? ⟨g, 264, none⟩ = some (.int .i64 y.st) := fun s => big_cell (rw s) hm 8 _ rfl
  clear rw
  clear hm hg
  go_enter Try.func73, Try.ntmps73
  go_wp2_with fail
  refine wp_region_sub (Sub.top w (Obj.cells #[.int .i64 r, .int .i64 a] 44)) (by kernel_rfl) (by kernel_rfl) ?_
  repeat (go_big_quiet_step (first | (go_at_call 94; exact Sub.call (unhide HZ) (unhide HR _)) | (go_at_call 56; exact Sub.call (unhide HZ) (unhide HA _)) | (go_at_call 82; exact Sub.same (unhide CL _))))
  refine wpQuiet_nil ?_
  intro s
  go_wp2_with fail
  refine wp_region_sub s (by kernel_rfl) (by kernel_rfl) ?_
  repeat (go_big_quiet_step (first | (go_at_call 94; exact Sub.call (unhide HZ) (unhide HR _)) | (go_at_call 56; exact Sub.call (unhide HZ) (unhide HA _)) | (go_at_call 82; exact Sub.same (unhide CL _))))
  refine wpQuiet_nil ?_
  intro s
  go_wp2_with fail
  go_ret
  exact ⟨rfl, unhide HS _ s.h⟩
end Go.Proofs.Ytfkmibgamkignaa
