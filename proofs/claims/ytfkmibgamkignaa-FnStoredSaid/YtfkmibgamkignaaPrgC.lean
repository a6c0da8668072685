/- Places of the program's machine: reached by a pointer; over this seat's translation; conditions stand as hypotheses of each. -/
import Derived.Test.YtfkmibgamkignaaPrgB
import Derived.Deep.RegionWith
namespace Go.Proofs.Ytfkmibgamkignaa
open Go.ChangeShapes Go.WideShapes Go.ChangeAt Go.RowKit
set_option linter.unusedVariables false
set_option maxRecDepth 8000
set_option linter.unusedSimpArgs false

set_option maxHeartbeats 4000000 in
theorem reach1 (g gr n rc k : Nat) (mem : List Int) (y : Mv) (w : World) (hm : mem.length = 256) (hg : w.heap[g]? = some (.cells (bigA mem y) 80 (0, 0))) (er : y.r = ⟨some ⟨gr, 0, none⟩, n, rc⟩) (hk : k < n) (hn : n ≤ 1048576) (HR : Hid (∀ w, Calls Try.prog 94 #[.agg y.cs, .int .i64 (k : Int)] w fun e w' => e = .returned (.bool true) ∧ Below w.heap.size w w')) :
    Calls Try.prog 73 #[.pointer (some ⟨g, 0, none⟩), .agg #[.int .i64 (k : Int), .int .i64 (-1)]] w fun e w' => e = .returned (.pointer (some ⟨gr, k, none⟩)) ∧ Below w.heap.size w w' := by
  obtain ⟨ym, yr, yn, yz, yv, yc, yi, yo, yst⟩ := y
  simp only at er
  subst er
  have HS := hide (box_below w (Obj.cells #[.int .i64 (k : Int), .int .i64 (-1)] 44))
  have HZ := hide (show w.heap.size + 1 ≤ (w.alloc (Obj.cells #[.int .i64 (k : Int), .int .i64 (-1)] 44)).heap.size by simp)
  have ne := Sub.ne (w.heap.size + 1) (w.alloc (Obj.cells #[.int .i64 (k : Int), .int .i64 (-1)] 44))
  have b0 : ∀ s : Sub (w.heap.size + 1) (w.alloc (Obj.cells #[.int .i64 (k : Int), .int .i64 (-1)] 44)), s.w.cell? ⟨w.heap.size, 0, none⟩ = some (.int .i64 (k : Int)) := fun s => s.cells 0 _ rfl
  have b1 : ∀ s : Sub (w.heap.size + 1) (w.alloc (Obj.cells #[.int .i64 (k : Int), .int .i64 (-1)] 44)), s.w.cell? ⟨w.heap.size, 1, none⟩ = some (.int .i64 (-1)) := fun s => s.cells 1 _ rfl
  have rw : ∀ s : Sub (w.heap.size + 1) (w.alloc (Obj.cells #[.int .i64 (k : Int), .int .i64 (-1)] 44)), s.w.heap[g]? = some (.cells (bigA mem (⟨ym, ⟨some ⟨gr, 0, none⟩, n, rc⟩, yn, yz, yv, yc, yi, yo, yst⟩ : Mv)) 80 (0, 0)) := fun s => (s.h.block g (by have := row_lt hg; omega)).trans (row_lat hg (below_new w _))
  have c0 : ∀ s : Sub (w.heap.size + 1) (w.alloc (Obj.cells #[.int .i64 (k : Int), .int .i64 (-1)] 44)), s.w.cell? ⟨g, 256, none⟩ = some (.slice ym.a ym.n ym.c) := fun s => big_cell (rw s) hm 0 _ rfl
  have c1 : ∀ s : Sub (w.heap.size + 1) (w.alloc (Obj.cells #[.int .i64 (k : Int), .int .i64 (-1)] 44)), s.w.cell? ⟨g, 257, none⟩ = some (.slice (some ⟨gr, 0, none⟩) n rc) := fun s => big_cell (rw s) hm 1 _ rfl
  have c2 : ∀ s : Sub (w.heap.size + 1) (w.alloc (Obj.cells #[.int .i64 (k : Int), .int .i64 (-1)] 44)), s.w.cell? ⟨g, 258, none⟩ = some (.bool yn) := fun s => big_cell (rw s) hm 2 _ rfl
  have c3 : ∀ s : Sub (w.heap.size + 1) (w.alloc (Obj.cells #[.int .i64 (k : Int), .int .i64 (-1)] 44)), s.w.cell? ⟨g, 259, none⟩ = some (.bool yz) := fun s => big_cell (rw s) hm 3 _ rfl
  have c4 : ∀ s : Sub (w.heap.size + 1) (w.alloc (Obj.cells #[.int .i64 (k : Int), .int .i64 (-1)] 44)), s.w.cell? ⟨g, 260, none⟩ = some (.bool yv) := fun s => big_cell (rw s) hm 4 _ rfl
  have c5 : ∀ s : Sub (w.heap.size + 1) (w.alloc (Obj.cells #[.int .i64 (k : Int), .int .i64 (-1)] 44)), s.w.cell? ⟨g, 261, none⟩ = some (.bool yc) := fun s => big_cell (rw s) hm 5 _ rfl
  have c6 : ∀ s : Sub (w.heap.size + 1) (w.alloc (Obj.cells #[.int .i64 (k : Int), .int .i64 (-1)] 44)), s.w.cell? ⟨g, 262, none⟩ = some (.slice yi.a yi.n yi.c) := fun s => big_cell (rw s) hm 6 _ rfl
  have c7 : ∀ s : Sub (w.heap.size + 1) (w.alloc (Obj.cells #[.int .i64 (k : Int), .int .i64 (-1)] 44)), s.w.cell? ⟨g, 263, none⟩ = some (.slice yo.a yo.n yo.c) := fun s => big_cell (rw s) hm 7 _ rfl
  have c8 : ∀ s : Sub (w.heap.size + 1) (w.alloc (Obj.cells #[.int .i64 (k : Int), .int .i64 (-1)] 44)), s.w.cell? ⟨g, 264, none⟩ = some (.int .i64 yst) := fun s => big_cell (rw s) hm 8 _ rfl
  clear rw
  have hki : (k : Int) < (n : Int) := by omega
  clear hm hg
  go_enter Try.func73, Try.ntmps73
  go_wp2_with fail
  refine wp_region_sub (Sub.top w (Obj.cells #[.int .i64 (k : Int), .int .i64 (-1)] 44)) (by kernel_rfl) (by kernel_rfl) ?_
  repeat (go_big_quiet_step (first | (go_at_call 94; exact Sub.call (unhide HZ) (unhide HR _))))
  refine wpQuiet_nil ?_
  intro s
  go_wp2_with fail
  refine wp_region_sub s (by kernel_rfl) (by kernel_rfl) ?_
  repeat (go_big_quiet_step (fail))
  refine wpQuiet_nil ?_
  intro s
  go_wp2_with fail
  go_ret
  exact ⟨rfl, unhide HS _ s.h⟩

theorem has_m1 (d : Md) : d.has (-1) = false := by
  unfold Md.has
  simp [adB]
theorem reach_any (g gr rc : Nat) (r a : Int) (mem : List Int) (y : Mv) (d : Md) (w : World) (hm : mem.length = 256) (hg : w.heap[g]? = some (.cells (bigA mem y) 80 (0, 0))) (hl : d.m.length = y.m.n) (hrl : d.r.length = y.r.n) (hs : y.small)
    (er : 0 < d.r.length → y.r = ⟨some ⟨gr, 0, none⟩, d.r.length, rc⟩) :
    Calls Try.prog 73 #[.pointer (some ⟨g, 0, none⟩), .agg #[.int .i64 r, .int .i64 a]] w fun e w' => e = .returned (.pointer (rchI g gr d r a)) ∧ Below w.heap.size w w' := by
  have HR := hide (fun w => hasReg_any y r w hs)
  have HA := hide (fun w => has_any y d a w hl hs.1)
  rw [← hrl] at HR
  unfold rchI
  by_cases ha : a = -1
  · subst ha
    cases hq : regB d.r.length r
    · rw [hq] at HR
      rw [if_neg (by simp), if_neg (by rw [has_m1]; simp)]
      rw [has_m1] at HA
      by_cases h1 : r = -1
      · subst h1
        exact reach2 g mem y w hm hg HR HA
      · exact reach3 g r mem y w hm hg h1 (by simpa using h1) HR
    · rw [hq] at HR
      rw [if_pos ⟨rfl, rfl⟩]
      have h3 := hq
      unfold regB at h3
      simp only [Bool.and_eq_true, decide_eq_true_eq] at h3
      obtain ⟨r0, r1, r2⟩ := h3
      obtain ⟨k, rfl⟩ := Int.eq_ofNat_of_zero_le r0
      exact reach1 g gr d.r.length rc k mem y w hm hg (er (by omega)) (by omega) (by have := hs.2.1; omega) HR
  · rw [if_neg (fun h => ha h.1)]
    by_cases h1 : r = -1
    · subst h1
      cases hq : d.has a
      · rw [hq] at HA
        rw [if_neg (by simp)]
        exact reach5 g a mem y w hm hg ha (by simpa using ha) HA
      · rw [hq] at HA
        rw [if_pos ⟨rfl, rfl⟩]
        obtain ⟨ta, tl⟩ := has_t hq
        obtain ⟨t0, t1, _⟩ := adB_t ta
        exact reach4 g a mem y w hm hg _ ha (by simpa using ha) HA (hide (fun w => cell_at g a w t0 (by omega)))
    · rw [if_neg (fun h => h1 h.1)]
      exact reach6 g r a mem y w hm hg h1 (by simpa using h1) ha (by simpa using ha)
end Go.Proofs.Ytfkmibgamkignaa
