/- Contracts over this seat's translation, laid together; conditions stand as hypotheses of each. -/
import Derived.Test.YtboedaofbchdkaaGreatDoorRsE
namespace Go.Proofs.YtboedaofbchdkaaGreatDoor
open Go.ChangeShapes Go.WideShapes Go.ChangeAt Go.RowKit
set_option maxHeartbeats 16000000
set_option linter.unusedVariables false
set_option maxRecDepth 8000
set_option linter.unusedSimpArgs false
theorem reach2 (g : Nat) (mem : List Int) (y : Mv) (w : World) (hm : mem.length = 256) (hg : w.heap[g]? = some (.cells (bigA mem y) 69 (0, 0))) (HR : Hid (∀ w, Calls Tryz.prog 127 #[.agg y.cs, .int .i64 (-1)] w fun e w' => e = .returned (.bool false) ∧ Below w.heap.size w w')) (HA : Hid (∀ w, Calls Tryz.prog 128 #[.agg y.cs, .int .i64 (-1)] w fun e w' => e = .returned (.bool false) ∧ Below w.heap.size w w')) :
  Calls Tryz.prog 108 #[.pointer (some ⟨g, 0, none⟩), .agg #[.int .i64 (-1), .int .i64 (-1)]] w fun e w' => e = .returned (.pointer (none)) ∧ Below w.heap.size w w' := by
 have HS := hide (box_below w (Obj.cells #[.int .i64 (-1), .int .i64 (-1)] 57))
 have HZ := hide (show w.heap.size + 1 ≤ (w.alloc (Obj.cells #[.int .i64 (-1), .int .i64 (-1)] 57)).heap.size by simp)
 have ne := Sub.ne (w.heap.size + 1) (w.alloc (Obj.cells #[.int .i64 (-1), .int .i64 (-1)] 57))
 have b0 : ∀ s : Sub (w.heap.size + 1) (w.alloc (Obj.cells #[.int .i64 (-1), .int .i64 (-1)] 57)), s.w.cell? ⟨w.heap.size, 0, none⟩ = some (.int .i64 (-1)) := fun s => s.cells 0 _ rfl
 have b1 : ∀ s : Sub (w.heap.size + 1) (w.alloc (Obj.cells #[.int .i64 (-1), .int .i64 (-1)] 57)), s.w.cell? ⟨w.heap.size, 1, none⟩ = some (.int .i64 (-1)) := fun s => s.cells 1 _ rfl
 have rw : ∀ s : Sub (w.heap.size + 1) (w.alloc (Obj.cells #[.int .i64 (-1), .int .i64 (-1)] 57)), s.w.heap[g]? = some (.cells (bigA mem y) 69 (0, 0)) := fun s => (s.h.block g (by have := row_lt hg; omega)).trans (row_lat hg (below_new w _))
 have c0 : ∀ s : Sub (w.heap.size + 1) (w.alloc (Obj.cells #[.int .i64 (-1), .int .i64 (-1)] 57)), s.w.cell? ⟨g, 256, none⟩ = some (.slice y.m.a y.m.n y.m.c) := fun s => big_cell (rw s) hm 0 _ rfl
 have c1 : ∀ s : Sub (w.heap.size + 1) (w.alloc (Obj.cells #[.int .i64 (-1), .int .i64 (-1)] 57)), s.w.cell? ⟨g, 257, none⟩ = some (.slice y.r.a y.r.n y.r.c) := fun s => big_cell (rw s) hm 1 _ rfl
 have c2 : ∀ s : Sub (w.heap.size + 1) (w.alloc (Obj.cells #[.int .i64 (-1), .int .i64 (-1)] 57)), s.w.cell? ⟨g, 258, none⟩ = some (.bool y.n) := fun s => big_cell (rw s) hm 2 _ rfl
 have c3 : ∀ s : Sub (w.heap.size + 1) (w.alloc (Obj.cells #[.int .i64 (-1), .int .i64 (-1)] 57)), s.w.cell? ⟨g, 259, none⟩ = some (.bool y.z) := fun s => big_cell (rw s) hm 3 _ rfl
 have c4 : ∀ s : Sub (w.heap.size + 1) (w.alloc (Obj.cells #[.int .i64 (-1), .int .i64 (-1)] 57)), s.w.cell? ⟨g, 260, none⟩ = some (.bool y.v) := fun s => big_cell (rw s) hm 4 _ rfl
 have c5 : ∀ s : Sub (w.heap.size + 1) (w.alloc (Obj.cells #[.int .i64 (-1), .int .i64 (-1)] 57)), s.w.cell? ⟨g, 261, none⟩ = some (.bool y.c) := fun s => big_cell (rw s) hm 5 _ rfl
 have c6 : ∀ s : Sub (w.heap.size + 1) (w.alloc (Obj.cells #[.int .i64 (-1), .int .i64 (-1)] 57)), s.w.cell? ⟨g, 262, none⟩ = some (.slice y.i.a y.i.n y.i.c) := fun s => big_cell (rw s) hm 6 _ rfl
 have c7 : ∀ s : Sub (w.heap.size + 1) (w.alloc (Obj.cells #[.int .i64 (-1), .int .i64 (-1)] 57)), s.w.cell? ⟨g, 263, none⟩ = some (.slice y.o.a y.o.n y.o.c) := fun s => big_cell (rw s) hm 7 _ rfl
 have c8 : ∀ s : Sub (w.heap.size + 1) (w.alloc (Obj.cells #[.int .i64 (-1), .int .i64 (-1)] 57)), s.w.cell? ⟨g, 264, none⟩ = some (.int .i64 y.st) := fun s => big_cell (rw s) hm 8 _ rfl
 clear rw
 clear hm hg
 go_enter Tryz.func108, Tryz.ntmps108
 go_wp2_with fail
 refine wp_region_sub (Sub.top w (Obj.cells #[.int .i64 (-1), .int .i64 (-1)] 57)) (by kernel_rfl) (by kernel_rfl) ?_
 repeat (go_big_quiet_step (first | (go_at_call 127; exact Sub.call (uh HZ) (uh HR _)) | (go_at_call 128; exact Sub.call (uh HZ) (uh HA _)) | (go_at_call 129; exact Sub.same (uh CL _))))
 refine wpQuiet_nil ?_
 intro s
 go_wp2_with fail
 refine wp_region_sub s (by kernel_rfl) (by kernel_rfl) ?_
 repeat (go_big_quiet_step (first | (go_at_call 127; exact Sub.call (uh HZ) (uh HR _)) | (go_at_call 128; exact Sub.call (uh HZ) (uh HA _)) | (go_at_call 129; exact Sub.same (uh CL _))))
 refine wpQuiet_nil ?_
 intro s
 go_wp2_with fail
 go_ret
 exact ⟨rfl, uh HS _ s.h⟩
theorem reach3 (g : Nat) (r : Int) (mem : List Int) (y : Mv) (w : World) (hm : mem.length = 256) (hg : w.heap[g]? = some (.cells (bigA mem y) 69 (0, 0))) (h1 : r ≠ -1) (h1b : (r == -1) = false) (HR : Hid (∀ w, Calls Tryz.prog 127 #[.agg y.cs, .int .i64 r] w fun e w' => e = .returned (.bool false) ∧ Below w.heap.size w w')) :
  Calls Tryz.prog 108 #[.pointer (some ⟨g, 0, none⟩), .agg #[.int .i64 r, .int .i64 (-1)]] w fun e w' => e = .returned (.pointer (none)) ∧ Below w.heap.size w w' := by
 have HS := hide (box_below w (Obj.cells #[.int .i64 r, .int .i64 (-1)] 57))
 have HZ := hide (show w.heap.size + 1 ≤ (w.alloc (Obj.cells #[.int .i64 r, .int .i64 (-1)] 57)).heap.size by simp)
 have ne := Sub.ne (w.heap.size + 1) (w.alloc (Obj.cells #[.int .i64 r, .int .i64 (-1)] 57))
 have b0 : ∀ s : Sub (w.heap.size + 1) (w.alloc (Obj.cells #[.int .i64 r, .int .i64 (-1)] 57)), s.w.cell? ⟨w.heap.size, 0, none⟩ = some (.int .i64 r) := fun s => s.cells 0 _ rfl
 have b1 : ∀ s : Sub (w.heap.size + 1) (w.alloc (Obj.cells #[.int .i64 r, .int .i64 (-1)] 57)), s.w.cell? ⟨w.heap.size, 1, none⟩ = some (.int .i64 (-1)) := fun s => s.cells 1 _ rfl
 have rw : ∀ s : Sub (w.heap.size + 1) (w.alloc (Obj.cells #[.int .i64 r, .int .i64 (-1)] 57)), s.w.heap[g]? = some (.cells (bigA mem y) 69 (0, 0)) := fun s => (s.h.block g (by have := row_lt hg; omega)).trans (row_lat hg (below_new w _))
 have c0 : ∀ s : Sub (w.heap.size + 1) (w.alloc (Obj.cells #[.int .i64 r, .int .i64 (-1)] 57)), s.w.cell? ⟨g, 256, none⟩ = some (.slice y.m.a y.m.n y.m.c) := fun s => big_cell (rw s) hm 0 _ rfl
 have c1 : ∀ s : Sub (w.heap.size + 1) (w.alloc (Obj.cells #[.int .i64 r, .int .i64 (-1)] 57)), s.w.cell? ⟨g, 257, none⟩ = some (.slice y.r.a y.r.n y.r.c) := fun s => big_cell (rw s) hm 1 _ rfl
 have c2 : ∀ s : Sub (w.heap.size + 1) (w.alloc (Obj.cells #[.int .i64 r, .int .i64 (-1)] 57)), s.w.cell? ⟨g, 258, none⟩ = some (.bool y.n) := fun s => big_cell (rw s) hm 2 _ rfl
 have c3 : ∀ s : Sub (w.heap.size + 1) (w.alloc (Obj.cells #[.int .i64 r, .int .i64 (-1)] 57)), s.w.cell? ⟨g, 259, none⟩ = some (.bool y.z) := fun s => big_cell (rw s) hm 3 _ rfl
 have c4 : ∀ s : Sub (w.heap.size + 1) (w.alloc (Obj.cells #[.int .i64 r, .int .i64 (-1)] 57)), s.w.cell? ⟨g, 260, none⟩ = some (.bool y.v) := fun s => big_cell (rw s) hm 4 _ rfl
 have c5 : ∀ s : Sub (w.heap.size + 1) (w.alloc (Obj.cells #[.int .i64 r, .int .i64 (-1)] 57)), s.w.cell? ⟨g, 261, none⟩ = some (.bool y.c) := fun s => big_cell (rw s) hm 5 _ rfl
 have c6 : ∀ s : Sub (w.heap.size + 1) (w.alloc (Obj.cells #[.int .i64 r, .int .i64 (-1)] 57)), s.w.cell? ⟨g, 262, none⟩ = some (.slice y.i.a y.i.n y.i.c) := fun s => big_cell (rw s) hm 6 _ rfl
 have c7 : ∀ s : Sub (w.heap.size + 1) (w.alloc (Obj.cells #[.int .i64 r, .int .i64 (-1)] 57)), s.w.cell? ⟨g, 263, none⟩ = some (.slice y.o.a y.o.n y.o.c) := fun s => big_cell (rw s) hm 7 _ rfl
 have c8 : ∀ s : Sub (w.heap.size + 1) (w.alloc (Obj.cells #[.int .i64 r, .int .i64 (-1)] 57)), s.w.cell? ⟨g, 264, none⟩ = some (.int .i64 y.st) := fun s => big_cell (rw s) hm 8 _ rfl
 clear rw
 clear hm hg
 go_enter Tryz.func108, Tryz.ntmps108
 go_wp2_with fail
 refine wp_region_sub (Sub.top w (Obj.cells #[.int .i64 r, .int .i64 (-1)] 57)) (by kernel_rfl) (by kernel_rfl) ?_
 repeat (go_big_quiet_step (first | (go_at_call 127; exact Sub.call (uh HZ) (uh HR _)) | (go_at_call 128; exact Sub.call (uh HZ) (uh HA _)) | (go_at_call 129; exact Sub.same (uh CL _))))
 refine wpQuiet_nil ?_
 intro s
 go_wp2_with fail
 refine wp_region_sub s (by kernel_rfl) (by kernel_rfl) ?_
 repeat (go_big_quiet_step (first | (go_at_call 127; exact Sub.call (uh HZ) (uh HR _)) | (go_at_call 128; exact Sub.call (uh HZ) (uh HA _)) | (go_at_call 129; exact Sub.same (uh CL _))))
 refine wpQuiet_nil ?_
 intro s
 go_wp2_with fail
 go_ret
 exact ⟨rfl, uh HS _ s.h⟩
theorem reach4 (g : Nat) (a : Int) (mem : List Int) (y : Mv) (w : World) (hm : mem.length = 256) (hg : w.heap[g]? = some (.cells (bigA mem y) 69 (0, 0))) (k : Nat) (h2 : a ≠ -1) (h2b : (a == -1) = false) (HA : Hid (∀ w, Calls Tryz.prog 128 #[.agg y.cs, .int .i64 a] w fun e w' => e = .returned (.bool true) ∧ Below w.heap.size w w')) (CL : Hid (∀ w, Calls Tryz.prog 129 #[.pointer (some ⟨g, 0, none⟩), .int .i64 a] w fun e w' => e = .returned (.pointer (some ⟨g, k, none⟩)) ∧ w' = w)) :
  Calls Tryz.prog 108 #[.pointer (some ⟨g, 0, none⟩), .agg #[.int .i64 (-1), .int .i64 a]] w fun e w' => e = .returned (.pointer (some ⟨g, k, none⟩)) ∧ Below w.heap.size w w' := by
 have HS := hide (box_below w (Obj.cells #[.int .i64 (-1), .int .i64 a] 57))
 have HZ := hide (show w.heap.size + 1 ≤ (w.alloc (Obj.cells #[.int .i64 (-1), .int .i64 a] 57)).heap.size by simp)
 have ne := Sub.ne (w.heap.size + 1) (w.alloc (Obj.cells #[.int .i64 (-1), .int .i64 a] 57))
 have b0 : ∀ s : Sub (w.heap.size + 1) (w.alloc (Obj.cells #[.int .i64 (-1), .int .i64 a] 57)), s.w.cell? ⟨w.heap.size, 0, none⟩ = some (.int .i64 (-1)) := fun s => s.cells 0 _ rfl
 have b1 : ∀ s : Sub (w.heap.size + 1) (w.alloc (Obj.cells #[.int .i64 (-1), .int .i64 a] 57)), s.w.cell? ⟨w.heap.size, 1, none⟩ = some (.int .i64 a) := fun s => s.cells 1 _ rfl
 have rw : ∀ s : Sub (w.heap.size + 1) (w.alloc (Obj.cells #[.int .i64 (-1), .int .i64 a] 57)), s.w.heap[g]? = some (.cells (bigA mem y) 69 (0, 0)) := fun s => (s.h.block g (by have := row_lt hg; omega)).trans (row_lat hg (below_new w _))
 have c0 : ∀ s : Sub (w.heap.size + 1) (w.alloc (Obj.cells #[.int .i64 (-1), .int .i64 a] 57)), s.w.cell? ⟨g, 256, none⟩ = some (.slice y.m.a y.m.n y.m.c) := fun s => big_cell (rw s) hm 0 _ rfl
 have c1 : ∀ s : Sub (w.heap.size + 1) (w.alloc (Obj.cells #[.int .i64 (-1), .int .i64 a] 57)), s.w.cell? ⟨g, 257, none⟩ = some (.slice y.r.a y.r.n y.r.c) := fun s => big_cell (rw s) hm 1 _ rfl
 have c2 : ∀ s : Sub (w.heap.size + 1) (w.alloc (Obj.cells #[.int .i64 (-1), .int .i64 a] 57)), s.w.cell? ⟨g, 258, none⟩ = some (.bool y.n) := fun s => big_cell (rw s) hm 2 _ rfl
 have c3 : ∀ s : Sub (w.heap.size + 1) (w.alloc (Obj.cells #[.int .i64 (-1), .int .i64 a] 57)), s.w.cell? ⟨g, 259, none⟩ = some (.bool y.z) := fun s => big_cell (rw s) hm 3 _ rfl
 have c4 : ∀ s : Sub (w.heap.size + 1) (w.alloc (Obj.cells #[.int .i64 (-1), .int .i64 a] 57)), s.w.cell? ⟨g, 260, none⟩ = some (.bool y.v) := fun s => big_cell (rw s) hm 4 _ rfl
 have c5 : ∀ s : Sub (w.heap.size + 1) (w.alloc (Obj.cells #[.int .i64 (-1), .int .i64 a] 57)), s.w.cell? ⟨g, 261, none⟩ = some (.bool y.c) := fun s => big_cell (rw s) hm 5 _ rfl
 have c6 : ∀ s : Sub (w.heap.size + 1) (w.alloc (Obj.cells #[.int .i64 (-1), .int .i64 a] 57)), s.w.cell? ⟨g, 262, none⟩ = some (.slice y.i.a y.i.n y.i.c) := fun s => big_cell (rw s) hm 6 _ rfl
 have c7 : ∀ s : Sub (w.heap.size + 1) (w.alloc (Obj.cells #[.int .i64 (-1), .int .i64 a] 57)), s.w.cell? ⟨g, 263, none⟩ = some (.slice y.o.a y.o.n y.o.c) := fun s => big_cell (rw s) hm 7 _ rfl
 have c8 : ∀ s : Sub (w.heap.size + 1) (w.alloc (Obj.cells #[.int .i64 (-1), .int .i64 a] 57)), s.w.cell? ⟨g, 264, none⟩ = some (.int .i64 y.st) := fun s => big_cell (rw s) hm 8 _ rfl
 clear rw
 clear hm hg
 go_enter Tryz.func108, Tryz.ntmps108
 go_wp2_with fail
 refine wp_region_sub (Sub.top w (Obj.cells #[.int .i64 (-1), .int .i64 a] 57)) (by kernel_rfl) (by kernel_rfl) ?_
 repeat (go_big_quiet_step (first | (go_at_call 127; exact Sub.call (uh HZ) (uh HR _)) | (go_at_call 128; exact Sub.call (uh HZ) (uh HA _)) | (go_at_call 129; exact Sub.same (uh CL _))))
 refine wpQuiet_nil ?_
 intro s
 go_wp2_with fail
 refine wp_region_sub s (by kernel_rfl) (by kernel_rfl) ?_
 repeat (go_big_quiet_step (first | (go_at_call 127; exact Sub.call (uh HZ) (uh HR _)) | (go_at_call 128; exact Sub.call (uh HZ) (uh HA _)) | (go_at_call 129; exact Sub.same (uh CL _))))
 refine wpQuiet_nil ?_
 intro s
 go_wp2_with fail
 refine wp_region_sub s (by kernel_rfl) (by kernel_rfl) ?_
 repeat (go_big_quiet_step (first | (go_at_call 127; exact Sub.call (uh HZ) (uh HR _)) | (go_at_call 128; exact Sub.call (uh HZ) (uh HA _)) | (go_at_call 129; exact Sub.same (uh CL _))))
 refine wpQuiet_nil ?_
 intro s
 go_wp2_with fail
 go_ret
 exact ⟨rfl, uh HS _ s.h⟩
theorem reach5 (g : Nat) (a : Int) (mem : List Int) (y : Mv) (w : World) (hm : mem.length = 256) (hg : w.heap[g]? = some (.cells (bigA mem y) 69 (0, 0))) (h2 : a ≠ -1) (h2b : (a == -1) = false) (HA : Hid (∀ w, Calls Tryz.prog 128 #[.agg y.cs, .int .i64 a] w fun e w' => e = .returned (.bool false) ∧ Below w.heap.size w w')) :
  Calls Tryz.prog 108 #[.pointer (some ⟨g, 0, none⟩), .agg #[.int .i64 (-1), .int .i64 a]] w fun e w' => e = .returned (.pointer (none)) ∧ Below w.heap.size w w' := by
 have HS := hide (box_below w (Obj.cells #[.int .i64 (-1), .int .i64 a] 57))
 have HZ := hide (show w.heap.size + 1 ≤ (w.alloc (Obj.cells #[.int .i64 (-1), .int .i64 a] 57)).heap.size by simp)
 have ne := Sub.ne (w.heap.size + 1) (w.alloc (Obj.cells #[.int .i64 (-1), .int .i64 a] 57))
 have b0 : ∀ s : Sub (w.heap.size + 1) (w.alloc (Obj.cells #[.int .i64 (-1), .int .i64 a] 57)), s.w.cell? ⟨w.heap.size, 0, none⟩ = some (.int .i64 (-1)) := fun s => s.cells 0 _ rfl
 have b1 : ∀ s : Sub (w.heap.size + 1) (w.alloc (Obj.cells #[.int .i64 (-1), .int .i64 a] 57)), s.w.cell? ⟨w.heap.size, 1, none⟩ = some (.int .i64 a) := fun s => s.cells 1 _ rfl
 have rw : ∀ s : Sub (w.heap.size + 1) (w.alloc (Obj.cells #[.int .i64 (-1), .int .i64 a] 57)), s.w.heap[g]? = some (.cells (bigA mem y) 69 (0, 0)) := fun s => (s.h.block g (by have := row_lt hg; omega)).trans (row_lat hg (below_new w _))
 have c0 : ∀ s : Sub (w.heap.size + 1) (w.alloc (Obj.cells #[.int .i64 (-1), .int .i64 a] 57)), s.w.cell? ⟨g, 256, none⟩ = some (.slice y.m.a y.m.n y.m.c) := fun s => big_cell (rw s) hm 0 _ rfl
 have c1 : ∀ s : Sub (w.heap.size + 1) (w.alloc (Obj.cells #[.int .i64 (-1), .int .i64 a] 57)), s.w.cell? ⟨g, 257, none⟩ = some (.slice y.r.a y.r.n y.r.c) := fun s => big_cell (rw s) hm 1 _ rfl
 have c2 : ∀ s : Sub (w.heap.size + 1) (w.alloc (Obj.cells #[.int .i64 (-1), .int .i64 a] 57)), s.w.cell? ⟨g, 258, none⟩ = some (.bool y.n) := fun s => big_cell (rw s) hm 2 _ rfl
 have c3 : ∀ s : Sub (w.heap.size + 1) (w.alloc (Obj.cells #[.int .i64 (-1), .int .i64 a] 57)), s.w.cell? ⟨g, 259, none⟩ = some (.bool y.z) := fun s => big_cell (rw s) hm 3 _ rfl
 have c4 : ∀ s : Sub (w.heap.size + 1) (w.alloc (Obj.cells #[.int .i64 (-1), .int .i64 a] 57)), s.w.cell? ⟨g, 260, none⟩ = some (.bool y.v) := fun s => big_cell (rw s) hm 4 _ rfl
 have c5 : ∀ s : Sub (w.heap.size + 1) (w.alloc (Obj.cells #[.int .i64 (-1), .int .i64 a] 57)), s.w.cell? ⟨g, 261, none⟩ = some (.bool y.c) := fun s => big_cell (rw s) hm 5 _ rfl
 have c6 : ∀ s : Sub (w.heap.size + 1) (w.alloc (Obj.cells #[.int .i64 (-1), .int .i64 a] 57)), s.w.cell? ⟨g, 262, none⟩ = some (.slice y.i.a y.i.n y.i.c) := fun s => big_cell (rw s) hm 6 _ rfl
 have c7 : ∀ s : Sub (w.heap.size + 1) (w.alloc (Obj.cells #[.int .i64 (-1), .int .i64 a] 57)), s.w.cell? ⟨g, 263, none⟩ = some (.slice y.o.a y.o.n y.o.c) := fun s => big_cell (rw s) hm 7 _ rfl
 have c8 : ∀ s : Sub (w.heap.size + 1) (w.alloc (Obj.cells #[.int .i64 (-1), .int .i64 a] 57)), s.w.cell? ⟨g, 264, none⟩ = some (.int .i64 y.st) := fun s => big_cell (rw s) hm 8 _ rfl
 clear rw
 clear hm hg
 go_enter Tryz.func108, Tryz.ntmps108
 go_wp2_with fail
 refine wp_region_sub (Sub.top w (Obj.cells #[.int .i64 (-1), .int .i64 a] 57)) (by kernel_rfl) (by kernel_rfl) ?_
 repeat (go_big_quiet_step (first | (go_at_call 127; exact Sub.call (uh HZ) (uh HR _)) | (go_at_call 128; exact Sub.call (uh HZ) (uh HA _)) | (go_at_call 129; exact Sub.same (uh CL _))))
 refine wpQuiet_nil ?_
 intro s
 go_wp2_with fail
 refine wp_region_sub s (by kernel_rfl) (by kernel_rfl) ?_
 repeat (go_big_quiet_step (first | (go_at_call 127; exact Sub.call (uh HZ) (uh HR _)) | (go_at_call 128; exact Sub.call (uh HZ) (uh HA _)) | (go_at_call 129; exact Sub.same (uh CL _))))
 refine wpQuiet_nil ?_
 intro s
 go_wp2_with fail
 go_ret
 exact ⟨rfl, uh HS _ s.h⟩
theorem reach6 (g : Nat) (r : Int) (a : Int) (mem : List Int) (y : Mv) (w : World) (hm : mem.length = 256) (hg : w.heap[g]? = some (.cells (bigA mem y) 69 (0, 0))) (h1 : r ≠ -1) (h1b : (r == -1) = false) (h2 : a ≠ -1) (h2b : (a == -1) = false) :
  Calls Tryz.prog 108 #[.pointer (some ⟨g, 0, none⟩), .agg #[.int .i64 r, .int .i64 a]] w fun e w' => e = .returned (.pointer (none)) ∧ Below w.heap.size w w' := by
 have HS := hide (box_below w (Obj.cells #[.int .i64 r, .int .i64 a] 57))
 have HZ := hide (show w.heap.size + 1 ≤ (w.alloc (Obj.cells #[.int .i64 r, .int .i64 a] 57)).heap.size by simp)
 have ne := Sub.ne (w.heap.size + 1) (w.alloc (Obj.cells #[.int .i64 r, .int .i64 a] 57))
 have b0 : ∀ s : Sub (w.heap.size + 1) (w.alloc (Obj.cells #[.int .i64 r, .int .i64 a] 57)), s.w.cell? ⟨w.heap.size, 0, none⟩ = some (.int .i64 r) := fun s => s.cells 0 _ rfl
 have b1 : ∀ s : Sub (w.heap.size + 1) (w.alloc (Obj.cells #[.int .i64 r, .int .i64 a] 57)), s.w.cell? ⟨w.heap.size, 1, none⟩ = some (.int .i64 a) := fun s => s.cells 1 _ rfl
 have rw : ∀ s : Sub (w.heap.size + 1) (w.alloc (Obj.cells #[.int .i64 r, .int .i64 a] 57)), s.w.heap[g]? = some (.cells (bigA mem y) 69 (0, 0)) := fun s => (s.h.block g (by have := row_lt hg; omega)).trans (row_lat hg (below_new w _))
 have c0 : ∀ s : Sub (w.heap.size + 1) (w.alloc (Obj.cells #[.int .i64 r, .int .i64 a] 57)), s.w.cell? ⟨g, 256, none⟩ = some (.slice y.m.a y.m.n y.m.c) := fun s => big_cell (rw s) hm 0 _ rfl
 have c1 : ∀ s : Sub (w.heap.size + 1) (w.alloc (Obj.cells #[.int .i64 r, .int .i64 a] 57)), s.w.cell? ⟨g, 257, none⟩ = some (.slice y.r.a y.r.n y.r.c) := fun s => big_cell (rw s) hm 1 _ rfl
 have c2 : ∀ s : Sub (w.heap.size + 1) (w.alloc (Obj.cells #[.int .i64 r, .int .i64 a] 57)), s.w.cell? ⟨g, 258, none⟩ = some (.bool y.n) := fun s => big_cell (rw s) hm 2 _ rfl
 have c3 : ∀ s : Sub (w.heap.size + 1) (w.alloc (Obj.cells #[.int .i64 r, .int .i64 a] 57)), s.w.cell? ⟨g, 259, none⟩ = some (.bool y.z) := fun s => big_cell (rw s) hm 3 _ rfl
 have c4 : ∀ s : Sub (w.heap.size + 1) (w.alloc (Obj.cells #[.int .i64 r, .int .i64 a] 57)), s.w.cell? ⟨g, 260, none⟩ = some (.bool y.v) := fun s => big_cell (rw s) hm 4 _ rfl
 have c5 : ∀ s : Sub (w.heap.size + 1) (w.alloc (Obj.cells #[.int .i64 r, .int .i64 a] 57)), s.w.cell? ⟨g, 261, none⟩ = some (.bool y.c) := fun s => big_cell (rw s) hm 5 _ rfl
 have c6 : ∀ s : Sub (w.heap.size + 1) (w.alloc (Obj.cells #[.int .i64 r, .int .i64 a] 57)), s.w.cell? ⟨g, 262, none⟩ = some (.slice y.i.a y.i.n y.i.c) := fun s => big_cell (rw s) hm 6 _ rfl
 have c7 : ∀ s : Sub (w.heap.size + 1) (w.alloc (Obj.cells #[.int .i64 r, .int .i64 a] 57)), s.w.cell? ⟨g, 263, none⟩ = some (.slice y.o.a y.o.n y.o.c) := fun s => big_cell (rw s) hm 7 _ rfl
 have c8 : ∀ s : Sub (w.heap.size + 1) (w.alloc (Obj.cells #[.int .i64 r, .int .i64 a] 57)), s.w.cell? ⟨g, 264, none⟩ = some (.int .i64 y.st) := fun s => big_cell (rw s) hm 8 _ rfl
 clear rw
 clear hm hg
 go_enter Tryz.func108, Tryz.ntmps108
 go_wp2_with fail
 refine wp_region_sub (Sub.top w (Obj.cells #[.int .i64 r, .int .i64 a] 57)) (by kernel_rfl) (by kernel_rfl) ?_
 repeat (go_big_quiet_step (first | (go_at_call 127; exact Sub.call (uh HZ) (uh HR _)) | (go_at_call 128; exact Sub.call (uh HZ) (uh HA _)) | (go_at_call 129; exact Sub.same (uh CL _))))
 refine wpQuiet_nil ?_
 intro s
 go_wp2_with fail
 refine wp_region_sub s (by kernel_rfl) (by kernel_rfl) ?_
 repeat (go_big_quiet_step (first | (go_at_call 127; exact Sub.call (uh HZ) (uh HR _)) | (go_at_call 128; exact Sub.call (uh HZ) (uh HA _)) | (go_at_call 129; exact Sub.same (uh CL _))))
 refine wpQuiet_nil ?_
 intro s
 go_wp2_with fail
 go_ret
 exact ⟨rfl, uh HS _ s.h⟩
theorem reach1 (g gr n rc k : Nat) (mem : List Int) (y : Mv) (w : World) (hm : mem.length = 256) (hg : w.heap[g]? = some (.cells (bigA mem y) 69 (0, 0))) (er : y.r = ⟨some ⟨gr, 0, none⟩, n, rc⟩) (hk : k < n) (hn : n ≤ 1048576) (HR : Hid (∀ w, Calls Tryz.prog 127 #[.agg y.cs, .int .i64 (k : Int)] w fun e w' => e = .returned (.bool true) ∧ Below w.heap.size w w')) :
  Calls Tryz.prog 108 #[.pointer (some ⟨g, 0, none⟩), .agg #[.int .i64 (k : Int), .int .i64 (-1)]] w fun e w' => e = .returned (.pointer (some ⟨gr, k, none⟩)) ∧ Below w.heap.size w w' := by
 obtain ⟨ym, yr, yn, yz, yv, yc, yi, yo, yst⟩ := y
 simp only at er
 subst er
 have HS := hide (box_below w (Obj.cells #[.int .i64 (k : Int), .int .i64 (-1)] 57))
 have HZ := hide (show w.heap.size + 1 ≤ (w.alloc (Obj.cells #[.int .i64 (k : Int), .int .i64 (-1)] 57)).heap.size by simp)
 have ne := Sub.ne (w.heap.size + 1) (w.alloc (Obj.cells #[.int .i64 (k : Int), .int .i64 (-1)] 57))
 have b0 : ∀ s : Sub (w.heap.size + 1) (w.alloc (Obj.cells #[.int .i64 (k : Int), .int .i64 (-1)] 57)), s.w.cell? ⟨w.heap.size, 0, none⟩ = some (.int .i64 (k : Int)) := fun s => s.cells 0 _ rfl
 have b1 : ∀ s : Sub (w.heap.size + 1) (w.alloc (Obj.cells #[.int .i64 (k : Int), .int .i64 (-1)] 57)), s.w.cell? ⟨w.heap.size, 1, none⟩ = some (.int .i64 (-1)) := fun s => s.cells 1 _ rfl
 have rw : ∀ s : Sub (w.heap.size + 1) (w.alloc (Obj.cells #[.int .i64 (k : Int), .int .i64 (-1)] 57)), s.w.heap[g]? = some (.cells (bigA mem (⟨ym, ⟨some ⟨gr, 0, none⟩, n, rc⟩, yn, yz, yv, yc, yi, yo, yst⟩ : Mv)) 69 (0, 0)) := fun s => (s.h.block g (by have := row_lt hg; omega)).trans (row_lat hg (below_new w _))
 have c0 : ∀ s : Sub (w.heap.size + 1) (w.alloc (Obj.cells #[.int .i64 (k : Int), .int .i64 (-1)] 57)), s.w.cell? ⟨g, 256, none⟩ = some (.slice ym.a ym.n ym.c) := fun s => big_cell (rw s) hm 0 _ rfl
 have c1 : ∀ s : Sub (w.heap.size + 1) (w.alloc (Obj.cells #[.int .i64 (k : Int), .int .i64 (-1)] 57)), s.w.cell? ⟨g, 257, none⟩ = some (.slice (some ⟨gr, 0, none⟩) n rc) := fun s => big_cell (rw s) hm 1 _ rfl
 have c2 : ∀ s : Sub (w.heap.size + 1) (w.alloc (Obj.cells #[.int .i64 (k : Int), .int .i64 (-1)] 57)), s.w.cell? ⟨g, 258, none⟩ = some (.bool yn) := fun s => big_cell (rw s) hm 2 _ rfl
 have c3 : ∀ s : Sub (w.heap.size + 1) (w.alloc (Obj.cells #[.int .i64 (k : Int), .int .i64 (-1)] 57)), s.w.cell? ⟨g, 259, none⟩ = some (.bool yz) := fun s => big_cell (rw s) hm 3 _ rfl
 have c4 : ∀ s : Sub (w.heap.size + 1) (w.alloc (Obj.cells #[.int .i64 (k : Int), .int .i64 (-1)] 57)), s.w.cell? ⟨g, 260, none⟩ = some (.bool yv) := fun s => big_cell (rw s) hm 4 _ rfl
 have c5 : ∀ s : Sub (w.heap.size + 1) (w.alloc (Obj.cells #[.int .i64 (k : Int), .int .i64 (-1)] 57)), s.w.cell? ⟨g, 261, none⟩ = some (.bool yc) := fun s => big_cell (rw s) hm 5 _ rfl
 have c6 : ∀ s : Sub (w.heap.size + 1) (w.alloc (Obj.cells #[.int .i64 (k : Int), .int .i64 (-1)] 57)), s.w.cell? ⟨g, 262, none⟩ = some (.slice yi.a yi.n yi.c) := fun s => big_cell (rw s) hm 6 _ rfl
 have c7 : ∀ s : Sub (w.heap.size + 1) (w.alloc (Obj.cells #[.int .i64 (k : Int), .int .i64 (-1)] 57)), s.w.cell? ⟨g, 263, none⟩ = some (.slice yo.a yo.n yo.c) := fun s => big_cell (rw s) hm 7 _ rfl
 have c8 : ∀ s : Sub (w.heap.size + 1) (w.alloc (Obj.cells #[.int .i64 (k : Int), .int .i64 (-1)] 57)), s.w.cell? ⟨g, 264, none⟩ = some (.int .i64 yst) := fun s => big_cell (rw s) hm 8 _ rfl
 clear rw
 have hki : (k : Int) < (n : Int) := by omega
 clear hm hg
 go_enter Tryz.func108, Tryz.ntmps108
 go_wp2_with fail
 refine wp_region_sub (Sub.top w (Obj.cells #[.int .i64 (k : Int), .int .i64 (-1)] 57)) (by kernel_rfl) (by kernel_rfl) ?_
 repeat (go_big_quiet_step (first | (go_at_call 127; exact Sub.call (uh HZ) (uh HR _))))
 refine wpQuiet_nil ?_
 intro s
 go_wp2_with fail
 refine wp_region_sub s (by kernel_rfl) (by kernel_rfl) ?_
 repeat (go_big_quiet_step (fail))
 refine wpQuiet_nil ?_
 intro s
 go_wp2_with fail
 go_ret
 exact ⟨rfl, uh HS _ s.h⟩
theorem has_m1 (d : Md) : d.has (-1) = false := by
 unfold Md.has
 simp [adB]
theorem reach_any (g gr rc : Nat) (r a : Int) (mem : List Int) (y : Mv) (d : Md) (w : World) (hm : mem.length = 256) (hg : w.heap[g]? = some (.cells (bigA mem y) 69 (0, 0))) (hl : d.m.length = y.m.n) (hrl : d.r.length = y.r.n) (hs : y.small)
  (er : 0 < d.r.length → y.r = ⟨some ⟨gr, 0, none⟩, d.r.length, rc⟩) :
  Calls Tryz.prog 108 #[.pointer (some ⟨g, 0, none⟩), .agg #[.int .i64 r, .int .i64 a]] w fun e w' => e = .returned (.pointer (rchI g gr d r a)) ∧ Below w.heap.size w w' := by
 have HR := hide (fun w => hasReg_any y r w hs)
 have HA := hide (fun w => has_any y d a w hl hs.1)
 rw [← hrl] at HR
 unfold rchI
 by_cases ha : a = -1
 ·
  subst ha
  cases hq : regB d.r.length r
  ·
   rw [hq] at HR
   rw [if_neg (by simp), if_neg (by rw [has_m1]; simp)]
   rw [has_m1] at HA
   by_cases h1 : r = -1
   ·
    subst h1
    exact reach2 g mem y w hm hg HR HA
   · exact reach3 g r mem y w hm hg h1 (by simpa using h1) HR
  ·
   rw [hq] at HR
   rw [if_pos ⟨rfl, rfl⟩]
   have h3 := hq
   unfold regB at h3
   simp only [Bool.and_eq_true, decide_eq_true_eq] at h3
   obtain ⟨r0, r1, r2⟩ := h3
   obtain ⟨k, rfl⟩ := Int.eq_ofNat_of_zero_le r0
   exact reach1 g gr d.r.length rc k mem y w hm hg (er (by omega)) (by omega) (by have := hs.2.1; omega) HR
 ·
  rw [if_neg (fun h => ha h.1)]
  by_cases h1 : r = -1
  ·
   subst h1
   cases hq : d.has a
   ·
    rw [hq] at HA
    rw [if_neg (by simp)]
    exact reach5 g a mem y w hm hg ha (by simpa using ha) HA
   ·
    rw [hq] at HA
    rw [if_pos ⟨rfl, rfl⟩]
    obtain ⟨ta, tl⟩ := has_t hq
    obtain ⟨t0, t1, _⟩ := adB_t ta
    exact reach4 g a mem y w hm hg _ ha (by simpa using ha) HA (hide (fun w => cell_at g a w t0 (by omega)))
  ·
   rw [if_neg (fun h => h1 h.1)]
   exact reach6 g r a mem y w hm hg h1 (by simpa using h1) ha (by simpa using ha)
section
structure Pg (w : World) (g B gr rc : Nat) (y : Mv) (d : Md) : Prop where
 row : w.heap[g]? = some (.cells (bigA d.m y) 69 (0, 0))
 len : d.m.length = 256
 own : OwnM w B y d
 er : y.r = ⟨some ⟨gr, 0, none⟩, d.r.length, rc⟩
 ne : gr ≠ g
section
variable {w w' : World} {g B gr rc : Nat} {y : Mv} {d : Md}
theorem Pg.later (h : Pg w g B gr rc y d) (hb : Below w.heap.size w w') : Pg w' g B gr rc y d := ⟨row_lat h.row hb, h.len, h.own.later hb, h.er, h.ne⟩
theorem Pg.set (h : Pg w g B gr rc y d) (k : Nat) (v : Int) (hk : k < d.r.length) : Pg (w.setCell ⟨gr, k, none⟩ (.int .i64 v)) g B gr rc y (d.reg k v) ∧ w.grownBy (w.setCell ⟨gr, k, none⟩ (.int .i64 v)) (some gr) ∧ w.cell? ⟨gr, k, none⟩ = some (.int .i64 (nAt d.r k)) ∧ w.frozen? ⟨gr, k, none⟩ = false := by
 obtain ⟨o3, g3, _, _, c1, c2⟩ := own_setR h.own h.er k v hk
 exact ⟨⟨row_past h.row g3 h.ne, h.len, o3, by rw [h.er]; unfold Md.reg; simp, h.ne⟩, g3, c1, c2⟩
theorem Pg.cell (h : Pg w g B gr rc y d) (k : Nat) (hk : k < d.r.length) : w.cell? ⟨gr, k, none⟩ = some (.int .i64 (nAt d.r k)) := (h.set k 0 hk).2.2.1
theorem Pg.r (h : Pg w g B gr rc y d) : w.cell? ⟨g, 257, none⟩ = some (.slice (some ⟨gr, 0, none⟩) d.r.length rc) := by
 have c := big_cell h.row h.len 1 (.slice y.r.a y.r.n y.r.c) rfl
 rw [h.er] at c
 exact c
theorem Pg.word (h : Pg w g B gr rc y d) {a : Int} (ha : d.has a = true) : w.cell? ⟨g, (a / 2).toNat, none⟩ = some (.int .i64 (d.get a)) := by
 obtain ⟨ta, tl⟩ := has_t ha
 obtain ⟨t0, t1, _⟩ := adB_t ta
 rw [cell_of_row w g _ _ 69 _ h.row, bigA_mem y h.len (by omega)]
 unfold Md.get
 rw [if_pos ha]
end
theorem goOn_any (g B gr rc k : Nat) (y : Mv) (d : Md) (w : World) (P : Pg w g B gr rc y d) (hk : k < d.r.length) (w0 : 0 ≤ nAt d.r k) (w1 : nAt d.r k ≤ 65535) :
  Calls Tryz.prog 55 #[.pointer (some ⟨gr, k, none⟩)] w fun e w' => e = .returned (.int .i64 (nAt d.r k)) ∧ Pg w' g B gr rc y (d.reg k ((nAt d.r k + 2) % 65536)) ∧ w.grownBy w' (some gr) := by
 obtain ⟨p3, g3, c1, c2⟩ := P.set k ((nAt d.r k + 2) % 65536) hk
 have P3 := hide p3
 have G3 := hide g3
 have WR := hide (fun w => wrapI_any (nAt d.r k + 2) w)
 generalize (nAt d.r k + 2) % 65536 = t at P3 G3 WR ⊢
 generalize nAt d.r k = v at c1 WR w0 w1 ⊢
 have hw : IntKind.i64.wrap (v + 2) = v + 2 := by rw [IntKind.wrap_i64]; omega
 clear p3 g3 P
 go_enter Tryz.func55, Tryz.ntmps55
 go_wp2_with (first | (go_at_call 63; refine (uh WR _).mono ?_; rintro e w' ⟨rfl, hw'⟩; rw [hw']; clear hw' w'))
 go_ret
 exact ⟨rfl, uh P3, uh G3⟩
theorem goBack_any (g B gr rc k : Nat) (y : Mv) (d : Md) (w : World) (P : Pg w g B gr rc y d) (hk : k < d.r.length) (w0 : 0 ≤ nAt d.r k) (w1 : nAt d.r k ≤ 65535) :
  Calls Tryz.prog 110 #[.pointer (some ⟨gr, k, none⟩)] w fun e w' => e = .returned (.int .i64 ((nAt d.r k - 2) % 65536)) ∧ Pg w' g B gr rc y (d.reg k ((nAt d.r k - 2) % 65536)) ∧ w.grownBy w' (some gr) := by
 obtain ⟨p3, g3, c1, c2⟩ := P.set k ((nAt d.r k - 2) % 65536) hk
 have P3 := hide p3
 have G3 := hide g3
 have e3 := p3.cell k (by unfold Md.reg; simpa using hk)
 have WR := hide (fun w => wrapI_any (nAt d.r k - 2) w)
 generalize (nAt d.r k - 2) % 65536 = t at P3 G3 WR ⊢
 generalize nAt d.r k = v at c1 WR w0 w1 ⊢
 have hw : IntKind.i64.wrap (v - 2) = v - 2 := by rw [IntKind.wrap_i64]; omega
 clear p3 g3 P e3
 go_enter Tryz.func110, Tryz.ntmps110
 go_wp2_with (first | (go_at_call 63; refine (uh WR _).mono ?_; rintro e w' ⟨rfl, hw'⟩; rw [hw']; clear hw' w'))
 go_ret
 exact ⟨rfl, uh P3, uh G3⟩
end
theorem reach_ad (g B gr rc : Nat) (a : Int) (y : Mv) (d : Md) (w : World) (P : Pg w g B gr rc y d) (hs : y.small) :
  Calls Tryz.prog 108 #[.pointer (some ⟨g, 0, none⟩), .agg #[.int .i64 (-1), .int .i64 a]] w fun e w' => e = .returned (.pointer (if d.has a = true then some ⟨g, (a / 2).toNat, none⟩ else none)) ∧ Below w.heap.size w w' := by
 have h := reach_any g gr rc (-1) a d.m y d w P.len P.row P.own.rd.ml P.own.rd.rl hs (fun _ => P.er)
 unfold rchI at h
 have e1 : regB d.r.length (-1) = false := by unfold regB; simp
 rw [e1, if_neg (by simp)] at h
 simpa using h
structure Rw (w wr : World) : Prop where
 re : wr.heap[w.heap.size]? = some (.cells #[.int .i64 0, .int .i64 0] 57 (0, 0))
 bel : Below w.heap.size w wr
theorem rw_new (w : World) : Rw w (w.alloc (.cells #[.int .i64 0, .int .i64 0] 57)) := ⟨heap_alloc_last w _, below_new w _⟩
theorem Rw.later {w wr w' : World} (h : Rw w wr) (hb : Below wr.heap.size wr w') : Rw w w' := ⟨row_lat h.re hb, h.bel.trans (hb.mono h.bel.size)⟩
theorem Rw.done {w wr : World} (h : Rw w wr) (cs : Array Value) : (wr.setRow w.heap.size cs).heap[w.heap.size]? = some (.cells cs 57 (0, 0)) ∧ Below w.heap.size w (wr.setRow w.heap.size cs) :=
 ⟨setRow_heap wr _ _ _ 57 _ h.re, below_setRow h.bel (Nat.le_refl _) _⟩
theorem through_any (g B gr rc : Nat) (a : Int) (y : Mv) (d : Md) (w : World) (P : Pg w g B gr rc y d) (hs : y.small) :
  Calls Tryz.prog 134 #[.pointer (some ⟨g, 0, none⟩), .int .i64 a] w fun e w' => e = .returned (.tuple #[.agg #[.int .i64 (if d.has a = true then -1 else 0), .int .i64 (if d.has a = true then d.get a else 0)], .bool (d.has a)]) ∧ Below w.heap.size w w' := by
 have Z := hide (rw_new w)
 have PP := hide (P.later (uh Z).bel)
 have AP := hide (fun w => adPlace_any a w)
 have RE := hide (fun w (P : Pg w g B gr rc y d) => reach_ad g B gr rc a y d w P hs)
 have WD := hide (fun w (P : Pg w g B gr rc y d) (h : d.has a = true) => P.word h)
 cases hq : d.has a
 ·
  rw [hq] at RE
  simp only [Bool.false_eq_true, if_false] at RE ⊢
  clear hq P
  go_enter Tryz.func134, Tryz.ntmps134
  go_wp2_with fail
  refine (uh AP _).mono ?_
  rintro e w1 ⟨rfl, hb⟩
  have Z1 := hide ((uh Z).later hb)
  have R1 := hide (uh RE w1 ((uh PP).later hb))
  clear hb Z
  go_wp2_with fail
  refine (uh R1).mono ?_
  rintro e w2 ⟨rfl, hb⟩
  have Z2 := hide ((uh Z1).later hb)
  clear hb Z1
  go_wp2_with (first | (refine wpList_store_row rfl 57 _ _ rfl w.heap.size #[.int .i64 0, .int .i64 0] rfl rfl 57 #[.int .i64 0, .int .i64 0] (uh Z2).re (by kernel_rfl) rfl (by simp [Value.oneCell']) ?_))
  obtain ⟨r1, r2⟩ := (uh Z2).done #[.int .i64 0, .int .i64 0]
  refine bodyPost_ret (results_row2 (P := Tryz.prog) rfl _ _ w.heap.size 57 #[.int .i64 0, .int .i64 0] (0, 0) _ rfl r1 Tryz.underlying57 rfl (by kernel_rfl)) rfl ?_
  exact ⟨rfl, r2⟩
 ·
  have W2 := hide (fun w P => uh WD w P hq)
  rw [hq] at RE
  simp only [if_true] at RE ⊢
  generalize (a / 2).toNat = ka at RE W2
  have A2 := hide (fun w => adPlace_any (d.get a) w)
  generalize d.get a = v at W2 A2 ⊢
  clear hq P WD
  go_enter Tryz.func134, Tryz.ntmps134
  go_wp2_with fail
  refine (uh AP _).mono ?_
  rintro e w1 ⟨rfl, hb⟩
  have Z1 := hide ((uh Z).later hb)
  have R1 := hide (uh RE w1 ((uh PP).later hb))
  have P1 := hide ((uh PP).later hb)
  clear hb Z
  go_wp2_with fail
  refine (uh R1).mono ?_
  rintro e w2 ⟨rfl, hb⟩
  have Z2 := hide ((uh Z1).later hb)
  have c2 := uh W2 w2 ((uh P1).later hb)
  clear hb Z1
  go_wp2_with fail
  refine (uh A2 _).mono ?_
  rintro e w3 ⟨rfl, hb⟩
  have Z3 := hide ((uh Z2).later hb)
  clear hb Z2
  go_wp2_with (first | (refine wpList_store_row rfl 57 _ _ rfl w.heap.size #[.int .i64 (-1), .int .i64 v] rfl rfl 57 #[.int .i64 0, .int .i64 0] (uh Z3).re (by kernel_rfl) rfl (by simp [Value.oneCell']) ?_))
  obtain ⟨r1, r2⟩ := (uh Z3).done #[.int .i64 (-1), .int .i64 v]
  refine bodyPost_ret (results_row2 (P := Tryz.prog) rfl _ _ w.heap.size 57 #[.int .i64 (-1), .int .i64 v] (0, 0) _ rfl r1 Tryz.underlying57 rfl (by kernel_rfl)) rfl ?_
  exact ⟨rfl, r2⟩
theorem grown_below {w w1 w2 : World} {o : Option Nat} (h : w.grownBy w1 o) (hb : Below w1.heap.size w1 w2) : w.grownBy w2 o := h.trans ⟨hb.os, hb.tape, hb.output, hb.size, fun k hk _ => hb.block k hk⟩
theorem indexed_any (g B gr rc re : Nat) (y : Mv) (d : Md) (w : World) (P : Pg w g B gr rc y d) (h8 : d.R8) (hr : re < 8) (hs : y.small) (hx : 0 ≤ d.get (nAt d.r 7) ∧ d.get (nAt d.r 7) ≤ 65535) :
  Calls Tryz.prog 135 #[.pointer (some ⟨g, 0, none⟩), .pointer (some ⟨gr, re, none⟩)] w fun e w' => e = .returned (.tuple #[.int .i64 (if d.has (nAt d.r 7) = true then (d.get (nAt d.r 7) + nAt d.fet.r re) % 65536 else 0), .bool (d.has (nAt d.r 7))]) ∧ Pg w' g B gr rc y (d.reg 7 ((nAt d.r 7 + 2) % 65536)) ∧ w.grownBy w' (some gr) := by
 obtain ⟨v0, v1⟩ := h8.2 7 (by omega)
 have R8' := reg_r8 h8 7 (nAt d.r 7 + 2)
 have hfe : d.has (nAt d.r 7) = true → d.fet = d.reg 7 ((nAt d.r 7 + 2) % 65536) := fun h => by unfold Md.fet; rw [if_pos h]
 have c1 := P.r
 rw [h8.1] at c1
 have GO := hide (goOn_any g B gr rc 7 y d w P (by rw [h8.1]; omega) v0 v1)
 have AP := hide (fun w => adPlace_any (nAt d.r 7) w)
 have D2 : ∃ d2, d.reg 7 ((nAt d.r 7 + 2) % 65536) = d2 := ⟨_, rfl⟩
 obtain ⟨d2, hd2⟩ := D2
 have e1 : d2.has (nAt d.r 7) = d.has (nAt d.r 7) := by rw [← hd2]; rfl
 have e2 : d2.get (nAt d.r 7) = d.get (nAt d.r 7) := by rw [← hd2]; rfl
 rw [hd2] at GO R8' hfe
 rw [hd2]
 obtain ⟨u0, u1⟩ := R8'.2 re hr
 have RE := hide (fun w (P : Pg w g B gr rc y d2) => reach_ad g B gr rc (nAt d.r 7) y d2 w P hs)
 rw [e1] at RE
 have CR := hide (fun w (P : Pg w g B gr rc y d2) => P.cell re (by rw [R8'.1]; exact hr))
 have WD := hide (fun w (P : Pg w g B gr rc y d2) (h : d2.has (nAt d.r 7) = true) => P.word h)
 rw [e1, e2] at WD
 have HF := hide hfe
 clear hfe e1 e2 hd2 h8 R8' P
 generalize nAt d.r 7 = v at *
 cases hq : d.has v
 ·
  rw [hq] at RE
  simp only [Bool.false_eq_true, if_false] at RE ⊢
  clear hq WD CR HF hx
  go_enter Tryz.func135, Tryz.ntmps135
  go_wp2_with fail
  refine (uh GO).mono ?_
  rintro e w1 ⟨rfl, p1, g1⟩
  have P1 := hide p1
  have G1 := hide g1
  clear p1 g1 GO
  go_wp2_with fail
  refine (uh AP _).mono ?_
  rintro e w2 ⟨rfl, hb⟩
  have P2 := hide ((uh P1).later hb)
  have G2 := hide (grown_below (uh G1) hb)
  have R2 := hide (uh RE w2 (uh P2))
  clear hb P1 G1
  go_wp2_with fail
  refine (uh R2).mono ?_
  rintro e w3 ⟨rfl, hb⟩
  have P3 := hide ((uh P2).later hb)
  have G3 := hide (grown_below (uh G2) hb)
  clear hb P2 G2 R2
  go_wp2_with fail
  go_ret2
  exact ⟨rfl, uh P3, uh G3⟩
 ·
  have W2 := hide (fun w P => uh WD w P hq)
  rw [hq] at RE
  simp only [if_true] at RE ⊢
  rw [uh HF hq]
  generalize (v / 2).toNat = ka at RE W2
  generalize nAt d2.r re = t at u0 u1 CR ⊢
  have WR := hide (fun w => wrapI_any (d.get v + t) w)
  generalize d.get v = u at W2 hx WR ⊢
  obtain ⟨x0, x1⟩ := hx
  have hw : IntKind.i64.wrap (u + t) = u + t := by rw [IntKind.wrap_i64]; omega
  have HW := hide hw
  clear hq WD HF hw
  go_enter Tryz.func135, Tryz.ntmps135
  go_wp2_with fail
  refine (uh GO).mono ?_
  rintro e w1 ⟨rfl, p1, g1⟩
  have P1 := hide p1
  have G1 := hide g1
  clear p1 g1 GO
  go_wp2_with fail
  refine (uh AP _).mono ?_
  rintro e w2 ⟨rfl, hb⟩
  have P2 := hide ((uh P1).later hb)
  have G2 := hide (grown_below (uh G1) hb)
  have R2 := hide (uh RE w2 (uh P2))
  clear hb P1 G1
  go_wp2_with fail
  refine (uh R2).mono ?_
  rintro e w3 ⟨rfl, hb⟩
  have P3 := hide ((uh P2).later hb)
  have G3 := hide (grown_below (uh G2) hb)
  clear hb P2 G2 R2
  go_wp2_with fail
  have ne := Sub.ne w3.heap.size w3
  have k1 : ∀ s : Sub w3.heap.size w3, s.w.cell? ⟨g, ka, none⟩ = some (.int .i64 u) := fun s => uh W2 s.w ((uh P3).later s.h)
  have k2 : ∀ s : Sub w3.heap.size w3, s.w.cell? ⟨gr, re, none⟩ = some (.int .i64 t) := fun s => uh CR s.w ((uh P3).later s.h)
  have hw := uh HW
  refine wp_region_sub (⟨w3, Below.refl _ _⟩ : Sub w3.heap.size w3) (by kernel_rfl) (by kernel_rfl) ?_
  repeat (go_big_quiet_step (first | (go_at_call 63; exact Sub.same (uh WR _))))
  refine wpQuiet_nil ?_
  intro s
  go_wp2_with fail
  go_ret2
  exact ⟨rfl, (uh P3).later s.h, grown_below (uh G3) s.h⟩
end Go.Proofs.YtboedaofbchdkaaGreatDoor
