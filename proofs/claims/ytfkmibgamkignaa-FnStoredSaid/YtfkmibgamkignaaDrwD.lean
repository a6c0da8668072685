/- Drawn instructions, right or not, over this seat's translation; conditions stand as hypotheses of each. -/
import Derived.Test.YtfkmibgamkignaaDrwC
namespace Go.Proofs.Ytfkmibgamkignaa
open Go.ChangeShapes Go.WideShapes Go.ChangeAt Go.RowKit
set_option linter.unusedVariables false
set_option linter.unusedSimpArgs false

set_option maxHeartbeats 4000000 in
set_option maxRecDepth 100000 in
theorem anyD_any (cb : Nat) (a : Option Addr) (len cap : Nat) (xs : List UInt8) (w : World) (hc : Cur w cb a len cap xs) :
    Calls Try.prog 64 #[.pointer (some ⟨cb, 0, none⟩)] w fun e w' => ∃ i : Is, e = .returned i.v ∧ Cur w' cb a len cap xs ∧ w.grownBy w' (some cb) := by
  have hlt := hc.lt
  have E0 := hide (ez_new hc (cs8 [0, 0, 0, 0, 0, 0, 0, 0]) 92 8 (c8 [0, 0, 0, 0, 0, 0, 0, 0]) (row8 w [0, 0, 0, 0, 0, 0, 0, 0] 92))
  have I0 := hide (drawD_any cb a len cap xs (w.alloc (Obj.cells (cs8 [0, 0, 0, 0, 0, 0, 0, 0]) 92)) (unhide E0).cur)
  clear hc
  go_enter Try.func64, Try.ntmps64
  go_wp2_with fail
  refine (unhide I0).mono ?_
  rintro e w1 ⟨⟨op, ⟨sm, sr, sx⟩, ⟨dm, dr, dx⟩, n⟩, _, rfl, hc1, hg1⟩
  unfold Is.v
  simp only
  have E1' := hide ((unhide E0).draw hc1 hg1)
  have E1 := hide ((unhide E1').alloc (Obj.cells (cs8 [op, sm, sr, sx, dm, dr, dx, n]) 92))
  have R1 := hide (row8 w1 [op, sm, sr, sx, dm, dr, dx, n] 92)
  have s1 : w.heap.size < w1.heap.size := (unhide E1').res.lt
  have I1 := hide (below_any cb a len cap xs 12 _ (by omega) (unhide E1).cur)
  clear hc1 hg1 I0 E0 E1'
  go_wp2_with fail
  refine (unhide I1).mono ?_
  rintro e w2 ⟨y, hy0, hy1, rfl, hc2, hg2⟩
  have E2 := hide ((unhide E1).draw hc2 hg2)
  have R2 := hide (row_draw (unhide R1) hg2 (by omega))
  have hne : w.heap.size ≠ w1.heap.size := by omega
  clear hc2 hg2 I1 E1 R1 hy0 hy1
  by_cases h0 : y = 0
  · have q0 : (y == 0) = true := eqB_t _ _ h0
    clear h0
    have P3 := hide (int_lit cb a len cap xs w2 (unhide E2).cur [0, 24, 1, 14, 22] 5 rfl (by omega) (by omega) w2.heap.size rfl _ rfl)
    go_wp2_with fail
    refine (unhide P3).mono ?_
    rintro e w3 ⟨j, hj, rfl, hc, hg⟩
    generalize nAt [0, 24, 1, 14, 22] j = v
    have E3 := hide (((unhide E2).alloc _).draw hc hg)
    have R3 := hide (row_draw (row_alloc (unhide R2) _) hg (by omega))
    clear hc hg P3 hj E2 R2
    have rr := unhide R3
    have x0 : w3.cell? ⟨w1.heap.size, 0, none⟩ = some (.int .i64 (op)) := rr.cell (i := 0) (by omega)
    have g0 := rr.frozen 0
    have x1 : w3.cell? ⟨w1.heap.size, 1, none⟩ = some (.int .i64 (sm)) := rr.cell (i := 1) (by omega)
    have g1 := rr.frozen 1
    have x2 : w3.cell? ⟨w1.heap.size, 2, none⟩ = some (.int .i64 (sr)) := rr.cell (i := 2) (by omega)
    have g2 := rr.frozen 2
    have x3 : w3.cell? ⟨w1.heap.size, 3, none⟩ = some (.int .i64 (sx)) := rr.cell (i := 3) (by omega)
    have g3 := rr.frozen 3
    have x4 : w3.cell? ⟨w1.heap.size, 4, none⟩ = some (.int .i64 (dm)) := rr.cell (i := 4) (by omega)
    have g4 := rr.frozen 4
    have x5 : w3.cell? ⟨w1.heap.size, 5, none⟩ = some (.int .i64 (dr)) := rr.cell (i := 5) (by omega)
    have g5 := rr.frozen 5
    have x6 : w3.cell? ⟨w1.heap.size, 6, none⟩ = some (.int .i64 (dx)) := rr.cell (i := 6) (by omega)
    have g6 := rr.frozen 6
    have x7 : w3.cell? ⟨w1.heap.size, 7, none⟩ = some (.int .i64 (n)) := rr.cell (i := 7) (by omega)
    have g7 := rr.frozen 7
    clear rr
    have E4 := hide ((unhide E3).setO s1 0 (.int .i64 v))
    have ee := (unhide E3).res
    have c0 : w3.cell? ⟨w.heap.size, 0, none⟩ = some (.int .i64 0) := ee.cell (i := 0) (by omega)
    have f0 := ee.frozen 0
    have c1 : w3.cell? ⟨w.heap.size, 1, none⟩ = some (.int .i64 0) := ee.cell (i := 1) (by omega)
    have f1 := ee.frozen 1
    have c2 : w3.cell? ⟨w.heap.size, 2, none⟩ = some (.int .i64 0) := ee.cell (i := 2) (by omega)
    have f2 := ee.frozen 2
    have c3 : w3.cell? ⟨w.heap.size, 3, none⟩ = some (.int .i64 0) := ee.cell (i := 3) (by omega)
    have f3 := ee.frozen 3
    have c4 : w3.cell? ⟨w.heap.size, 4, none⟩ = some (.int .i64 0) := ee.cell (i := 4) (by omega)
    have f4 := ee.frozen 4
    have c5 : w3.cell? ⟨w.heap.size, 5, none⟩ = some (.int .i64 0) := ee.cell (i := 5) (by omega)
    have f5 := ee.frozen 5
    have c6 : w3.cell? ⟨w.heap.size, 6, none⟩ = some (.int .i64 0) := ee.cell (i := 6) (by omega)
    have f6 := ee.frozen 6
    have c7 : w3.cell? ⟨w.heap.size, 7, none⟩ = some (.int .i64 0) := ee.cell (i := 7) (by omega)
    have f7 := ee.frozen 7
    clear ee
    have EF := hide ((unhide E4).put8 (v) (sm) (sr) (sx) (dm) (dr) (dx) (n))
    go_wp2
    refine bodyPost_ret (results_cell_row (P := Try.prog) rfl _ _ w.heap.size 92 (cs8 [v, sm, sr, sx, dm, dr, dx, n]) (0, 0) _ rfl (row8_heap (unhide EF).res) Try.underlying92 rfl (by kernel_rfl)) rfl ?_
    exact ⟨⟨v, ⟨sm, sr, sx⟩, ⟨dm, dr, dx⟩, n⟩, rfl, (unhide EF).cur, (unhide EF).gr⟩
  by_cases h1 : y = 1
  · have q0 : (y == 0) = false := eqB_f _ _ h0
    have q1 : (y == 1) = true := eqB_t _ _ h1
    clear h0 h1
    have P3 := hide (int_lit cb a len cap xs w2 (unhide E2).cur [-129, 128, 256, -1, 8, 0] 6 rfl (by omega) (by omega) w2.heap.size rfl _ rfl)
    go_wp2_with fail
    refine (unhide P3).mono ?_
    rintro e w3 ⟨j, hj, rfl, hc, hg⟩
    generalize nAt [-129, 128, 256, -1, 8, 0] j = v
    have E3 := hide (((unhide E2).alloc _).draw hc hg)
    have R3 := hide (row_draw (row_alloc (unhide R2) _) hg (by omega))
    clear hc hg P3 hj E2 R2
    have rr := unhide R3
    have x0 : w3.cell? ⟨w1.heap.size, 0, none⟩ = some (.int .i64 (op)) := rr.cell (i := 0) (by omega)
    have g0 := rr.frozen 0
    have x1 : w3.cell? ⟨w1.heap.size, 1, none⟩ = some (.int .i64 (sm)) := rr.cell (i := 1) (by omega)
    have g1 := rr.frozen 1
    have x2 : w3.cell? ⟨w1.heap.size, 2, none⟩ = some (.int .i64 (sr)) := rr.cell (i := 2) (by omega)
    have g2 := rr.frozen 2
    have x3 : w3.cell? ⟨w1.heap.size, 3, none⟩ = some (.int .i64 (sx)) := rr.cell (i := 3) (by omega)
    have g3 := rr.frozen 3
    have x4 : w3.cell? ⟨w1.heap.size, 4, none⟩ = some (.int .i64 (dm)) := rr.cell (i := 4) (by omega)
    have g4 := rr.frozen 4
    have x5 : w3.cell? ⟨w1.heap.size, 5, none⟩ = some (.int .i64 (dr)) := rr.cell (i := 5) (by omega)
    have g5 := rr.frozen 5
    have x6 : w3.cell? ⟨w1.heap.size, 6, none⟩ = some (.int .i64 (dx)) := rr.cell (i := 6) (by omega)
    have g6 := rr.frozen 6
    have x7 : w3.cell? ⟨w1.heap.size, 7, none⟩ = some (.int .i64 (n)) := rr.cell (i := 7) (by omega)
    have g7 := rr.frozen 7
    clear rr
    have E4 := hide ((unhide E3).setO s1 7 (.int .i64 v))
    have ee := (unhide E3).res
    have c0 : w3.cell? ⟨w.heap.size, 0, none⟩ = some (.int .i64 0) := ee.cell (i := 0) (by omega)
    have f0 := ee.frozen 0
    have c1 : w3.cell? ⟨w.heap.size, 1, none⟩ = some (.int .i64 0) := ee.cell (i := 1) (by omega)
    have f1 := ee.frozen 1
    have c2 : w3.cell? ⟨w.heap.size, 2, none⟩ = some (.int .i64 0) := ee.cell (i := 2) (by omega)
    have f2 := ee.frozen 2
    have c3 : w3.cell? ⟨w.heap.size, 3, none⟩ = some (.int .i64 0) := ee.cell (i := 3) (by omega)
    have f3 := ee.frozen 3
    have c4 : w3.cell? ⟨w.heap.size, 4, none⟩ = some (.int .i64 0) := ee.cell (i := 4) (by omega)
    have f4 := ee.frozen 4
    have c5 : w3.cell? ⟨w.heap.size, 5, none⟩ = some (.int .i64 0) := ee.cell (i := 5) (by omega)
    have f5 := ee.frozen 5
    have c6 : w3.cell? ⟨w.heap.size, 6, none⟩ = some (.int .i64 0) := ee.cell (i := 6) (by omega)
    have f6 := ee.frozen 6
    have c7 : w3.cell? ⟨w.heap.size, 7, none⟩ = some (.int .i64 0) := ee.cell (i := 7) (by omega)
    have f7 := ee.frozen 7
    clear ee
    have EF := hide ((unhide E4).put8 (op) (sm) (sr) (sx) (dm) (dr) (dx) (v))
    go_wp2
    refine bodyPost_ret (results_cell_row (P := Try.prog) rfl _ _ w.heap.size 92 (cs8 [op, sm, sr, sx, dm, dr, dx, v]) (0, 0) _ rfl (row8_heap (unhide EF).res) Try.underlying92 rfl (by kernel_rfl)) rfl ?_
    exact ⟨⟨op, ⟨sm, sr, sx⟩, ⟨dm, dr, dx⟩, v⟩, rfl, (unhide EF).cur, (unhide EF).gr⟩
  by_cases h2 : y = 2
  · have q0 : (y == 0) = false := eqB_f _ _ h0
    have q1 : (y == 1) = false := eqB_f _ _ h1
    have q2 : (y == 2) = true := eqB_t _ _ h2
    clear h0 h1 h2
    have P3 := hide (int_lit cb a len cap xs w2 (unhide E2).cur [-1, 0, 6, 8] 4 rfl (by omega) (by omega) w2.heap.size rfl _ rfl)
    go_wp2_with fail
    refine (unhide P3).mono ?_
    rintro e w3 ⟨j, hj, rfl, hc, hg⟩
    generalize nAt [-1, 0, 6, 8] j = v1
    have E3 := hide (((unhide E2).alloc _).draw hc hg)
    have R3 := hide (row_draw (row_alloc (unhide R2) _) hg (by omega))
    clear hc hg P3 hj E2 R2
    have P4 := hide (int_lit cb a len cap xs w3 (unhide E3).cur [-1, 7, 8] 3 rfl (by omega) (by omega) w3.heap.size rfl _ rfl)
    go_wp2_with fail
    refine (unhide P4).mono ?_
    rintro e w4 ⟨j, hj, rfl, hc, hg⟩
    generalize nAt [-1, 7, 8] j = v2
    have E4 := hide (((unhide E3).alloc _).draw hc hg)
    have R4 := hide (row_draw (row_alloc (unhide R3) _) hg (by omega))
    clear hc hg P4 hj E3 R3
    have P5 := hide (int_lit cb a len cap xs w4 (unhide E4).cur [-1, 0, 5, 65536] 4 rfl (by omega) (by omega) w4.heap.size rfl _ rfl)
    go_wp2_with fail
    refine (unhide P5).mono ?_
    rintro e w5 ⟨j, hj, rfl, hc, hg⟩
    generalize nAt [-1, 0, 5, 65536] j = v3
    have E5 := hide (((unhide E4).alloc _).draw hc hg)
    have R5 := hide (row_draw (row_alloc (unhide R4) _) hg (by omega))
    clear hc hg P5 hj E4 R4
    have rr := unhide R5
    have x0 : w5.cell? ⟨w1.heap.size, 0, none⟩ = some (.int .i64 (op)) := rr.cell (i := 0) (by omega)
    have g0 := rr.frozen 0
    have x1 : w5.cell? ⟨w1.heap.size, 1, none⟩ = some (.int .i64 (sm)) := rr.cell (i := 1) (by omega)
    have g1 := rr.frozen 1
    have x2 : w5.cell? ⟨w1.heap.size, 2, none⟩ = some (.int .i64 (sr)) := rr.cell (i := 2) (by omega)
    have g2 := rr.frozen 2
    have x3 : w5.cell? ⟨w1.heap.size, 3, none⟩ = some (.int .i64 (sx)) := rr.cell (i := 3) (by omega)
    have g3 := rr.frozen 3
    have x4 : w5.cell? ⟨w1.heap.size, 4, none⟩ = some (.int .i64 (dm)) := rr.cell (i := 4) (by omega)
    have g4 := rr.frozen 4
    have x5 : w5.cell? ⟨w1.heap.size, 5, none⟩ = some (.int .i64 (dr)) := rr.cell (i := 5) (by omega)
    have g5 := rr.frozen 5
    have x6 : w5.cell? ⟨w1.heap.size, 6, none⟩ = some (.int .i64 (dx)) := rr.cell (i := 6) (by omega)
    have g6 := rr.frozen 6
    have x7 : w5.cell? ⟨w1.heap.size, 7, none⟩ = some (.int .i64 (n)) := rr.cell (i := 7) (by omega)
    have g7 := rr.frozen 7
    clear rr
    have E6 := hide ((((unhide E5).setO s1 1 (.int .i64 v1)).setO s1 2 (.int .i64 v2)).setO s1 3 (.int .i64 v3))
    have ee := (unhide E5).res
    have c0 : w5.cell? ⟨w.heap.size, 0, none⟩ = some (.int .i64 0) := ee.cell (i := 0) (by omega)
    have f0 := ee.frozen 0
    have c1 : w5.cell? ⟨w.heap.size, 1, none⟩ = some (.int .i64 0) := ee.cell (i := 1) (by omega)
    have f1 := ee.frozen 1
    have c2 : w5.cell? ⟨w.heap.size, 2, none⟩ = some (.int .i64 0) := ee.cell (i := 2) (by omega)
    have f2 := ee.frozen 2
    have c3 : w5.cell? ⟨w.heap.size, 3, none⟩ = some (.int .i64 0) := ee.cell (i := 3) (by omega)
    have f3 := ee.frozen 3
    have c4 : w5.cell? ⟨w.heap.size, 4, none⟩ = some (.int .i64 0) := ee.cell (i := 4) (by omega)
    have f4 := ee.frozen 4
    have c5 : w5.cell? ⟨w.heap.size, 5, none⟩ = some (.int .i64 0) := ee.cell (i := 5) (by omega)
    have f5 := ee.frozen 5
    have c6 : w5.cell? ⟨w.heap.size, 6, none⟩ = some (.int .i64 0) := ee.cell (i := 6) (by omega)
    have f6 := ee.frozen 6
    have c7 : w5.cell? ⟨w.heap.size, 7, none⟩ = some (.int .i64 0) := ee.cell (i := 7) (by omega)
    have f7 := ee.frozen 7
    clear ee
    have EF := hide ((unhide E6).put8 (op) (v1) (v2) (v3) (dm) (dr) (dx) (n))
    go_wp2
    refine bodyPost_ret (results_cell_row (P := Try.prog) rfl _ _ w.heap.size 92 (cs8 [op, v1, v2, v3, dm, dr, dx, n]) (0, 0) _ rfl (row8_heap (unhide EF).res) Try.underlying92 rfl (by kernel_rfl)) rfl ?_
    exact ⟨⟨op, ⟨v1, v2, v3⟩, ⟨dm, dr, dx⟩, n⟩, rfl, (unhide EF).cur, (unhide EF).gr⟩
  by_cases h3 : y = 3
  · have q0 : (y == 0) = false := eqB_f _ _ h0
    have q1 : (y == 1) = false := eqB_f _ _ h1
    have q2 : (y == 2) = false := eqB_f _ _ h2
    have q3 : (y == 3) = true := eqB_t _ _ h3
    clear h0 h1 h2 h3
    have P3 := hide (int_lit cb a len cap xs w2 (unhide E2).cur [-1, 1, 65536] 3 rfl (by omega) (by omega) w2.heap.size rfl _ rfl)
    go_wp2_with fail
    refine (unhide P3).mono ?_
    rintro e w3 ⟨j, hj, rfl, hc, hg⟩
    generalize nAt [-1, 1, 65536] j = v
    have E3 := hide (((unhide E2).alloc _).draw hc hg)
    have R3 := hide (row_draw (row_alloc (unhide R2) _) hg (by omega))
    clear hc hg P3 hj E2 R2
    have rr := unhide R3
    have x0 : w3.cell? ⟨w1.heap.size, 0, none⟩ = some (.int .i64 (op)) := rr.cell (i := 0) (by omega)
    have g0 := rr.frozen 0
    have x1 : w3.cell? ⟨w1.heap.size, 1, none⟩ = some (.int .i64 (sm)) := rr.cell (i := 1) (by omega)
    have g1 := rr.frozen 1
    have x2 : w3.cell? ⟨w1.heap.size, 2, none⟩ = some (.int .i64 (sr)) := rr.cell (i := 2) (by omega)
    have g2 := rr.frozen 2
    have x3 : w3.cell? ⟨w1.heap.size, 3, none⟩ = some (.int .i64 (sx)) := rr.cell (i := 3) (by omega)
    have g3 := rr.frozen 3
    have x4 : w3.cell? ⟨w1.heap.size, 4, none⟩ = some (.int .i64 (dm)) := rr.cell (i := 4) (by omega)
    have g4 := rr.frozen 4
    have x5 : w3.cell? ⟨w1.heap.size, 5, none⟩ = some (.int .i64 (dr)) := rr.cell (i := 5) (by omega)
    have g5 := rr.frozen 5
    have x6 : w3.cell? ⟨w1.heap.size, 6, none⟩ = some (.int .i64 (dx)) := rr.cell (i := 6) (by omega)
    have g6 := rr.frozen 6
    have x7 : w3.cell? ⟨w1.heap.size, 7, none⟩ = some (.int .i64 (n)) := rr.cell (i := 7) (by omega)
    have g7 := rr.frozen 7
    clear rr
    have E4 := hide ((unhide E3).setO s1 6 (.int .i64 v))
    have ee := (unhide E3).res
    have c0 : w3.cell? ⟨w.heap.size, 0, none⟩ = some (.int .i64 0) := ee.cell (i := 0) (by omega)
    have f0 := ee.frozen 0
    have c1 : w3.cell? ⟨w.heap.size, 1, none⟩ = some (.int .i64 0) := ee.cell (i := 1) (by omega)
    have f1 := ee.frozen 1
    have c2 : w3.cell? ⟨w.heap.size, 2, none⟩ = some (.int .i64 0) := ee.cell (i := 2) (by omega)
    have f2 := ee.frozen 2
    have c3 : w3.cell? ⟨w.heap.size, 3, none⟩ = some (.int .i64 0) := ee.cell (i := 3) (by omega)
    have f3 := ee.frozen 3
    have c4 : w3.cell? ⟨w.heap.size, 4, none⟩ = some (.int .i64 0) := ee.cell (i := 4) (by omega)
    have f4 := ee.frozen 4
    have c5 : w3.cell? ⟨w.heap.size, 5, none⟩ = some (.int .i64 0) := ee.cell (i := 5) (by omega)
    have f5 := ee.frozen 5
    have c6 : w3.cell? ⟨w.heap.size, 6, none⟩ = some (.int .i64 0) := ee.cell (i := 6) (by omega)
    have f6 := ee.frozen 6
    have c7 : w3.cell? ⟨w.heap.size, 7, none⟩ = some (.int .i64 0) := ee.cell (i := 7) (by omega)
    have f7 := ee.frozen 7
    clear ee
    have EF := hide ((unhide E4).put8 (op) (sm) (sr) (sx) (dm) (dr) (v) (n))
    go_wp2
    refine bodyPost_ret (results_cell_row (P := Try.prog) rfl _ _ w.heap.size 92 (cs8 [op, sm, sr, sx, dm, dr, v, n]) (0, 0) _ rfl (row8_heap (unhide EF).res) Try.underlying92 rfl (by kernel_rfl)) rfl ?_
    exact ⟨⟨op, ⟨sm, sr, sx⟩, ⟨dm, dr, v⟩, n⟩, rfl, (unhide EF).cur, (unhide EF).gr⟩
  have q0 : (y == 0) = false := eqB_f _ _ h0
  have q1 : (y == 1) = false := eqB_f _ _ h1
  have q2 : (y == 2) = false := eqB_f _ _ h2
  have q3 : (y == 3) = false := eqB_f _ _ h3
  clear h0 h1 h2 h3
  have rr := unhide R2
  have x0 : w2.cell? ⟨w1.heap.size, 0, none⟩ = some (.int .i64 (op)) := rr.cell (i := 0) (by omega)
  have g0 := rr.frozen 0
  have x1 : w2.cell? ⟨w1.heap.size, 1, none⟩ = some (.int .i64 (sm)) := rr.cell (i := 1) (by omega)
  have g1 := rr.frozen 1
  have x2 : w2.cell? ⟨w1.heap.size, 2, none⟩ = some (.int .i64 (sr)) := rr.cell (i := 2) (by omega)
  have g2 := rr.frozen 2
  have x3 : w2.cell? ⟨w1.heap.size, 3, none⟩ = some (.int .i64 (sx)) := rr.cell (i := 3) (by omega)
  have g3 := rr.frozen 3
  have x4 : w2.cell? ⟨w1.heap.size, 4, none⟩ = some (.int .i64 (dm)) := rr.cell (i := 4) (by omega)
  have g4 := rr.frozen 4
  have x5 : w2.cell? ⟨w1.heap.size, 5, none⟩ = some (.int .i64 (dr)) := rr.cell (i := 5) (by omega)
  have g5 := rr.frozen 5
  have x6 : w2.cell? ⟨w1.heap.size, 6, none⟩ = some (.int .i64 (dx)) := rr.cell (i := 6) (by omega)
  have g6 := rr.frozen 6
  have x7 : w2.cell? ⟨w1.heap.size, 7, none⟩ = some (.int .i64 (n)) := rr.cell (i := 7) (by omega)
  have g7 := rr.frozen 7
  clear rr
  have ee := (unhide E2).res
  have c0 : w2.cell? ⟨w.heap.size, 0, none⟩ = some (.int .i64 0) := ee.cell (i := 0) (by omega)
  have f0 := ee.frozen 0
  have c1 : w2.cell? ⟨w.heap.size, 1, none⟩ = some (.int .i64 0) := ee.cell (i := 1) (by omega)
  have f1 := ee.frozen 1
  have c2 : w2.cell? ⟨w.heap.size, 2, none⟩ = some (.int .i64 0) := ee.cell (i := 2) (by omega)
  have f2 := ee.frozen 2
  have c3 : w2.cell? ⟨w.heap.size, 3, none⟩ = some (.int .i64 0) := ee.cell (i := 3) (by omega)
  have f3 := ee.frozen 3
  have c4 : w2.cell? ⟨w.heap.size, 4, none⟩ = some (.int .i64 0) := ee.cell (i := 4) (by omega)
  have f4 := ee.frozen 4
  have c5 : w2.cell? ⟨w.heap.size, 5, none⟩ = some (.int .i64 0) := ee.cell (i := 5) (by omega)
  have f5 := ee.frozen 5
  have c6 : w2.cell? ⟨w.heap.size, 6, none⟩ = some (.int .i64 0) := ee.cell (i := 6) (by omega)
  have f6 := ee.frozen 6
  have c7 : w2.cell? ⟨w.heap.size, 7, none⟩ = some (.int .i64 0) := ee.cell (i := 7) (by omega)
  have f7 := ee.frozen 7
  clear ee
  have EF := hide ((unhide E2).put8 (op) (sm) (sr) (sx) (dm) (dr) (dx) (n))
  go_wp2
  refine bodyPost_ret (results_cell_row (P := Try.prog) rfl _ _ w.heap.size 92 (cs8 [op, sm, sr, sx, dm, dr, dx, n]) (0, 0) _ rfl (row8_heap (unhide EF).res) Try.underlying92 rfl (by kernel_rfl)) rfl ?_
  exact ⟨⟨op, ⟨sm, sr, sx⟩, ⟨dm, dr, dx⟩, n⟩, rfl, (unhide EF).cur, (unhide EF).gr⟩
end Go.Proofs.Ytfkmibgamkignaa
