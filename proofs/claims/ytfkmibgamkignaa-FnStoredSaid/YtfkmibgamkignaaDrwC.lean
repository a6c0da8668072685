/- Drawn instructions that are right, over this seat's translation; conditions stand as hypotheses of each. -/
import Derived.Test.YtfkmibgamkignaaDrwB
namespace Go.Proofs.Ytfkmibgamkignaa
open Go.ChangeShapes Go.WideShapes Go.ChangeAt Go.RowKit
set_option linter.unusedVariables false
set_option maxRecDepth 8000
set_option linter.unusedSimpArgs false

theorem Ez.set8 {w wr : World} {cb : Nat} {a : Option Addr} {len cap : Nat} {xs : List UInt8} {l : List Int} (h : Ez w wr cb a len cap xs 92 8 (c8 l)) (k : Nat) (x : Int) (l' : List Int) (he : ∀ j, j < 8 → (if j = k then Value.int .i64 x else c8 l j) = c8 l' j) : Ez w (wr.setCell ⟨w.heap.size, k, none⟩ (.int .i64 x)) cb a len cap xs 92 8 (c8 l') :=
  h.setR k _ _ (row8_set h.res k x he)
theorem Ez.put8 {w wr : World} {cb : Nat} {a : Option Addr} {len cap : Nat} {xs : List UInt8} {y0 y1 y2 y3 y4 y5 y6 y7 : Int} (h : Ez w wr cb a len cap xs 92 8 (c8 [y0, y1, y2, y3, y4, y5, y6, y7])) (x0 x1 x2 x3 x4 x5 x6 x7 : Int) :
    Ez w ((((((((wr.setCell ⟨w.heap.size, 0, none⟩ (.int .i64 x0)).setCell ⟨w.heap.size, 1, none⟩ (.int .i64 x1)).setCell ⟨w.heap.size, 2, none⟩ (.int .i64 x2)).setCell ⟨w.heap.size, 3, none⟩ (.int .i64 x3)).setCell ⟨w.heap.size, 4, none⟩ (.int .i64 x4)).setCell ⟨w.heap.size, 5, none⟩ (.int .i64 x5)).setCell ⟨w.heap.size, 6, none⟩ (.int .i64 x6)).setCell ⟨w.heap.size, 7, none⟩ (.int .i64 x7)) cb a len cap xs 92 8 (c8 [x0, x1, x2, x3, x4, x5, x6, x7]) :=
  ((((((((h.set8 0 x0 [x0, y1, y2, y3, y4, y5, y6, y7] (fun j hj => by rcases j with _ | _ | _ | _ | _ | _ | _ | _ | j <;> first | rfl | omega)).set8 1 x1 [x0, x1, y2, y3, y4, y5, y6, y7] (fun j hj => by rcases j with _ | _ | _ | _ | _ | _ | _ | _ | j <;> first | rfl | omega)).set8 2 x2 [x0, x1, x2, y3, y4, y5, y6, y7] (fun j hj => by rcases j with _ | _ | _ | _ | _ | _ | _ | _ | j <;> first | rfl | omega)).set8 3 x3 [x0, x1, x2, x3, y4, y5, y6, y7] (fun j hj => by rcases j with _ | _ | _ | _ | _ | _ | _ | _ | j <;> first | rfl | omega)).set8 4 x4 [x0, x1, x2, x3, x4, y5, y6, y7] (fun j hj => by rcases j with _ | _ | _ | _ | _ | _ | _ | _ | j <;> first | rfl | omega)).set8 5 x5 [x0, x1, x2, x3, x4, x5, y6, y7] (fun j hj => by rcases j with _ | _ | _ | _ | _ | _ | _ | _ | j <;> first | rfl | omega)).set8 6 x6 [x0, x1, x2, x3, x4, x5, x6, y7] (fun j hj => by rcases j with _ | _ | _ | _ | _ | _ | _ | _ | j <;> first | rfl | omega)).set8 7 x7 [x0, x1, x2, x3, x4, x5, x6, x7] (fun j hj => by rcases j with _ | _ | _ | _ | _ | _ | _ | _ | j <;> first | rfl | omega))
theorem ok_A {op n : Int} {s d : Od} (h : 1 ≤ op ∧ op ≤ 6) (hs : s.ok = true) (hd : d.ok = true) (hn : n = 0) : Is.ok ⟨op, s, d, n⟩ = true := by
  unfold Is.ok
  rw [if_pos (inB_t _ _ _ h)]
  simp [hs, hd, hn]
theorem ok_B {op n : Int} {d : Od} (h : 7 ≤ op ∧ op ≤ 14) (hd : d.ok = true) (hn : n = 0) : Is.ok ⟨op, ⟨0, 0, 0⟩, d, n⟩ = true := by
  unfold Is.ok
  rw [if_neg (by rw [inB_f _ _ _ (by simp only; omega)]; simp), if_pos (inB_t _ _ _ h)]
  simp [hd, hn, Od.zero]
theorem ok_C {op n : Int} {d : Od} (h : op = 15) (hd : d.ok = true) (hn : 0 ≤ n ∧ n ≤ 7) : Is.ok ⟨op, ⟨0, 0, 0⟩, d, n⟩ = true := by
  subst h
  simp [Is.ok, inB, Od.zero, hd, hn.1, hn.2]
theorem ok_D {op n : Int} (h : op = 16) (hn : 0 ≤ n ∧ n ≤ 7) : Is.ok ⟨op, ⟨0, 0, 0⟩, ⟨0, 0, 0⟩, n⟩ = true := by
  subst h
  simp [Is.ok, inB, Od.zero, hn.1, hn.2]
theorem ok_E {op n : Int} (h : 17 ≤ op ∧ op ≤ 21) (hn : -128 ≤ n ∧ n ≤ 127) : Is.ok ⟨op, ⟨0, 0, 0⟩, ⟨0, 0, 0⟩, n⟩ = true := by
  unfold Is.ok
  rw [if_neg (by rw [inB_f _ _ _ (by simp only; omega)]; simp), if_neg (by rw [inB_f _ _ _ (by simp only; omega)]; simp), if_neg (by simp only; rw [eqB_f _ _ (by omega)]; simp), if_neg (by simp [Od.zero]), if_neg (by simp only; rw [eqB_f _ _ (by omega)]; simp), if_pos (inB_t _ _ _ h), inB_t _ _ _ hn]
theorem ok_F {op : Int} (h : op = 22) : Is.ok ⟨op, ⟨0, 0, 0⟩, ⟨0, 0, 0⟩, 0⟩ = true := by
  subst h
  rfl
theorem ok_G {op n : Int} (h : op = 23) (hn : 0 ≤ n ∧ n ≤ 255) : Is.ok ⟨op, ⟨0, 0, 0⟩, ⟨0, 0, 0⟩, n⟩ = true := by
  subst h
  simp [Is.ok, inB, Od.zero, hn.1, hn.2]
theorem ns7_bd : ∀ i : Fin 7, -128 ≤ nAt [-128, 127, 0, -1, 1, 2, -3] i.val ∧ nAt [-128, 127, 0, -1, 1, 2, -3] i.val ≤ 127 := by decide +kernel
theorem ns4_bd : ∀ i : Fin 4, 0 ≤ nAt [0, 1, 2, 255] i.val ∧ nAt [0, 1, 2, 255] i.val ≤ 255 := by decide +kernel

set_option maxHeartbeats 8000000 in
set_option maxRecDepth 100000 in
theorem drawD_any (cb : Nat) (a : Option Addr) (len cap : Nat) (xs : List UInt8) (w : World) (hc : Cur w cb a len cap xs) :
    Calls Try.prog 80 #[.pointer (some ⟨cb, 0, none⟩)] w fun e w' => ∃ i : Is, i.ok = true ∧ e = .returned i.v ∧ Cur w' cb a len cap xs ∧ w.grownBy w' (some cb) := by
  have hlt := hc.lt
  have E0 := hide (ez_new hc (cs8 [0, 0, 0, 0, 0, 0, 0, 0]) 92 8 (c8 [0, 0, 0, 0, 0, 0, 0, 0]) (row8 w [0, 0, 0, 0, 0, 0, 0, 0] 92))
  have I0 := hide (below_any cb a len cap xs 23 (w.alloc (Obj.cells (cs8 [0, 0, 0, 0, 0, 0, 0, 0]) 92)) (by omega) (unhide E0).cur)
  clear hc
  go_enter Try.func80, Try.ntmps80
  go_wp2_with fail
  refine (unhide I0).mono ?_
  rintro e w1 ⟨y, hy0, hy1, rfl, hc1, hg1⟩
  obtain ⟨hy2, hy3⟩ := hy0 (by omega)
  obtain ⟨op, hop⟩ : ∃ op, 1 + y = op := ⟨_, rfl⟩
  have hob : 1 ≤ op ∧ op ≤ 23 := by omega
  have E1' := hide ((unhide E0).draw hc1 hg1)
  have E1 := hide ((unhide E1').alloc (Obj.cells (cs8 [op, 0, 0, 0, 0, 0, 0, 0]) 92))
  have R1 := hide (row8 w1 [op, 0, 0, 0, 0, 0, 0, 0] 92)
  have s1 : w.heap.size < w1.heap.size := (unhide E1').res.lt
  have hne : w.heap.size ≠ w1.heap.size := by omega
  clear hc1 hg1 I0 E0 hy0 hy1
  by_cases hA : op ≤ 6
  · have q6 : decide (op ≤ 6) = true := by simp; omega
    have q15 : decide (op ≤ 15) = true := by simp; omega
    have q1 : (op == 15) = false := eqB_f _ _ (by omega)
    have q2 : (op == 16) = false := eqB_f _ _ (by omega)
    have q3 : inB op 17 21 = false := inB_f _ _ _ (by omega)
    have q4 : (op == 23) = false := eqB_f _ _ (by omega)
    have P2 := hide (opdD_any cb a len cap xs _ (unhide E1).cur)
    go_wp2_with fail
    refine (unhide P2).mono ?_
    rintro e w2 ⟨⟨sm, sr, sx⟩, oks, rfl, hc, hg⟩
    unfold Od.v
    simp only
    have EE := hide ((unhide E1).draw hc hg)
    have RR := hide (row_draw (unhide R1) hg (by omega))
    clear hc hg P2
    have rr := unhide RR
    have x0 : w2.cell? ⟨w1.heap.size, 0, none⟩ = some (.int .i64 (op)) := rr.cell (i := 0) (by omega)
    have g0 := rr.frozen 0
    have x1 : w2.cell? ⟨w1.heap.size, 1, none⟩ = some (.int .i64 (0)) := rr.cell (i := 1) (by omega)
    have g1 := rr.frozen 1
    have x2 : w2.cell? ⟨w1.heap.size, 2, none⟩ = some (.int .i64 (0)) := rr.cell (i := 2) (by omega)
    have g2 := rr.frozen 2
    have x3 : w2.cell? ⟨w1.heap.size, 3, none⟩ = some (.int .i64 (0)) := rr.cell (i := 3) (by omega)
    have g3 := rr.frozen 3
    have x4 : w2.cell? ⟨w1.heap.size, 4, none⟩ = some (.int .i64 (0)) := rr.cell (i := 4) (by omega)
    have g4 := rr.frozen 4
    have x5 : w2.cell? ⟨w1.heap.size, 5, none⟩ = some (.int .i64 (0)) := rr.cell (i := 5) (by omega)
    have g5 := rr.frozen 5
    have x6 : w2.cell? ⟨w1.heap.size, 6, none⟩ = some (.int .i64 (0)) := rr.cell (i := 6) (by omega)
    have g6 := rr.frozen 6
    have x7 : w2.cell? ⟨w1.heap.size, 7, none⟩ = some (.int .i64 (0)) := rr.cell (i := 7) (by omega)
    have g7 := rr.frozen 7
    clear rr
    have E2 := hide ((((unhide EE).setO s1 1 (.int .i64 sm)).setO s1 2 (.int .i64 sr)).setO s1 3 (.int .i64 sx))
    have R2 := hide (row8_set (l' := [op, sm, sr, sx, 0, 0, 0, 0]) (row8_set (l' := [op, sm, sr, 0, 0, 0, 0, 0]) (row8_set (l' := [op, sm, 0, 0, 0, 0, 0, 0]) (unhide RR) 1 sm (fun j hj => by rcases j with _ | _ | _ | _ | _ | _ | _ | _ | j <;> first | rfl | omega)) 2 sr (fun j hj => by rcases j with _ | _ | _ | _ | _ | _ | _ | _ | j <;> first | rfl | omega)) 3 sx (fun j hj => by rcases j with _ | _ | _ | _ | _ | _ | _ | _ | j <;> first | rfl | omega))
    have EB2 := EE
    clear EE RR
    have P3 := hide (opdD_any cb a len cap xs _ (unhide E2).cur)
    go_wp2_with fail
    refine (unhide P3).mono ?_
    rintro e w3 ⟨⟨dm, dr, dx⟩, okd, rfl, hc, hg⟩
    unfold Od.v
    simp only
    have EE := hide ((unhide E2).draw hc hg)
    have RR := hide (row_draw (unhide R2) hg (by omega))
    clear hc hg P3
    clear x0 g0 x1 g1 x2 g2 x3 g3 x4 g4 x5 g5 x6 g6 x7 g7
    have rr := unhide RR
    have x0 : w3.cell? ⟨w1.heap.size, 0, none⟩ = some (.int .i64 (op)) := rr.cell (i := 0) (by omega)
    have g0 := rr.frozen 0
    have x1 : w3.cell? ⟨w1.heap.size, 1, none⟩ = some (.int .i64 (sm)) := rr.cell (i := 1) (by omega)
    have g1 := rr.frozen 1
    have x2 : w3.cell? ⟨w1.heap.size, 2, none⟩ = some (.int .i64 (sr)) := rr.cell (i := 2) (by omega)
    have g2 := rr.frozen 2
    have x3 : w3.cell? ⟨w1.heap.size, 3, none⟩ = some (.int .i64 (sx)) := rr.cell (i := 3) (by omega)
    have g3 := rr.frozen 3
    have x4 : w3.cell? ⟨w1.heap.size, 4, none⟩ = some (.int .i64 (0)) := rr.cell (i := 4) (by omega)
    have g4 := rr.frozen 4
    have x5 : w3.cell? ⟨w1.heap.size, 5, none⟩ = some (.int .i64 (0)) := rr.cell (i := 5) (by omega)
    have g5 := rr.frozen 5
    have x6 : w3.cell? ⟨w1.heap.size, 6, none⟩ = some (.int .i64 (0)) := rr.cell (i := 6) (by omega)
    have g6 := rr.frozen 6
    have x7 : w3.cell? ⟨w1.heap.size, 7, none⟩ = some (.int .i64 (0)) := rr.cell (i := 7) (by omega)
    have g7 := rr.frozen 7
    clear rr
    have E3 := hide ((((unhide EE).setO s1 4 (.int .i64 dm)).setO s1 5 (.int .i64 dr)).setO s1 6 (.int .i64 dx))
    have R3 := hide (row8_set (l' := [op, sm, sr, sx, dm, dr, dx, 0]) (row8_set (l' := [op, sm, sr, sx, dm, dr, 0, 0]) (row8_set (l' := [op, sm, sr, sx, dm, 0, 0, 0]) (unhide RR) 4 dm (fun j hj => by rcases j with _ | _ | _ | _ | _ | _ | _ | _ | j <;> first | rfl | omega)) 5 dr (fun j hj => by rcases j with _ | _ | _ | _ | _ | _ | _ | _ | j <;> first | rfl | omega)) 6 dx (fun j hj => by rcases j with _ | _ | _ | _ | _ | _ | _ | _ | j <;> first | rfl | omega))
    have EB3 := EE
    clear EE RR
    have ee := (unhide EB3).res
    have c0 : w3.cell? ⟨w.heap.size, 0, none⟩ = some (.int .i64 0) := ee.cell (i := 0) (by omega)
    have f0 := ee.frozen 0
    have c1 : w3.cell? ⟨w.heap.size, 1, none⟩ = some (.int .i64 0) := ee.cell (i := 1) (by omega)
    have f1 := ee.frozen 1
    have c2 : w3.cell? ⟨w.heap.size, 2, none⟩ = some (.int .i64 0) := ee.cell (i := 2) (by omega)
    have f2 := ee.frozen 2
    have c3 : w3.cell? ⟨w.heap.size, 3, none⟩ = some (.int .i64 0) := ee.cell (i := 3) (by omega)
    have f3 := ee.frozen 3
    have c4 : w3.cell? ⟨w.heap.size, 4, none⟩ = some (.int .i64 0) := ee.cell (i := 4) (by omega)
    have f4 := ee.frozen 4
    have c5 : w3.cell? ⟨w.heap.size, 5, none⟩ = some (.int .i64 0) := ee.cell (i := 5) (by omega)
    have f5 := ee.frozen 5
    have c6 : w3.cell? ⟨w.heap.size, 6, none⟩ = some (.int .i64 0) := ee.cell (i := 6) (by omega)
    have f6 := ee.frozen 6
    have c7 : w3.cell? ⟨w.heap.size, 7, none⟩ = some (.int .i64 0) := ee.cell (i := 7) (by omega)
    have f7 := ee.frozen 7
    clear ee
    have EF := hide ((unhide E3).put8 (op) (sm) (sr) (sx) (dm) (dr) (dx) (0))
    go_wp2_with (go_at_call 59; refine (in_any _ _ _ _).mono ?_; rintro e w' ⟨rfl, hw'⟩; rw [hw']; clear hw' w')
    refine bodyPost_ret (results_cell_row (P := Try.prog) rfl _ _ w.heap.size 92 (cs8 [op, sm, sr, sx, dm, dr, dx, 0]) (0, 0) _ rfl (row8_heap (unhide EF).res) Try.underlying92 rfl (by kernel_rfl)) rfl ?_
    exact ⟨⟨op, ⟨sm, sr, sx⟩, ⟨dm, dr, dx⟩, 0⟩, ok_A (by omega) oks okd rfl, rfl, (unhide EF).cur, (unhide EF).gr⟩
  by_cases hB : op ≤ 14
  · have q6 : decide (op ≤ 6) = false := by simp; omega
    have q15 : decide (op ≤ 15) = true := by simp; omega
    have q1 : (op == 15) = false := eqB_f _ _ (by omega)
    have q2 : (op == 16) = false := eqB_f _ _ (by omega)
    have q3 : inB op 17 21 = false := inB_f _ _ _ (by omega)
    have q4 : (op == 23) = false := eqB_f _ _ (by omega)
    have P2 := hide (opdD_any cb a len cap xs _ (unhide E1).cur)
    go_wp2_with fail
    refine (unhide P2).mono ?_
    rintro e w2 ⟨⟨dm, dr, dx⟩, okd, rfl, hc, hg⟩
    unfold Od.v
    simp only
    have EE := hide ((unhide E1).draw hc hg)
    have RR := hide (row_draw (unhide R1) hg (by omega))
    clear hc hg P2
    have rr := unhide RR
    have x0 : w2.cell? ⟨w1.heap.size, 0, none⟩ = some (.int .i64 (op)) := rr.cell (i := 0) (by omega)
    have g0 := rr.frozen 0
    have x1 : w2.cell? ⟨w1.heap.size, 1, none⟩ = some (.int .i64 (0)) := rr.cell (i := 1) (by omega)
    have g1 := rr.frozen 1
    have x2 : w2.cell? ⟨w1.heap.size, 2, none⟩ = some (.int .i64 (0)) := rr.cell (i := 2) (by omega)
    have g2 := rr.frozen 2
    have x3 : w2.cell? ⟨w1.heap.size, 3, none⟩ = some (.int .i64 (0)) := rr.cell (i := 3) (by omega)
    have g3 := rr.frozen 3
    have x4 : w2.cell? ⟨w1.heap.size, 4, none⟩ = some (.int .i64 (0)) := rr.cell (i := 4) (by omega)
    have g4 := rr.frozen 4
    have x5 : w2.cell? ⟨w1.heap.size, 5, none⟩ = some (.int .i64 (0)) := rr.cell (i := 5) (by omega)
    have g5 := rr.frozen 5
    have x6 : w2.cell? ⟨w1.heap.size, 6, none⟩ = some (.int .i64 (0)) := rr.cell (i := 6) (by omega)
    have g6 := rr.frozen 6
    have x7 : w2.cell? ⟨w1.heap.size, 7, none⟩ = some (.int .i64 (0)) := rr.cell (i := 7) (by omega)
    have g7 := rr.frozen 7
    clear rr
    have E2 := hide ((((unhide EE).setO s1 4 (.int .i64 dm)).setO s1 5 (.int .i64 dr)).setO s1 6 (.int .i64 dx))
    have R2 := hide (row8_set (l' := [op, 0, 0, 0, dm, dr, dx, 0]) (row8_set (l' := [op, 0, 0, 0, dm, dr, 0, 0]) (row8_set (l' := [op, 0, 0, 0, dm, 0, 0, 0]) (unhide RR) 4 dm (fun j hj => by rcases j with _ | _ | _ | _ | _ | _ | _ | _ | j <;> first | rfl | omega)) 5 dr (fun j hj => by rcases j with _ | _ | _ | _ | _ | _ | _ | _ | j <;> first | rfl | omega)) 6 dx (fun j hj => by rcases j with _ | _ | _ | _ | _ | _ | _ | _ | j <;> first | rfl | omega))
    have EB2 := EE
    clear EE RR
    have ee := (unhide EB2).res
    have c0 : w2.cell? ⟨w.heap.size, 0, none⟩ = some (.int .i64 0) := ee.cell (i := 0) (by omega)
    have f0 := ee.frozen 0
    have c1 : w2.cell? ⟨w.heap.size, 1, none⟩ = some (.int .i64 0) := ee.cell (i := 1) (by omega)
    have f1 := ee.frozen 1
    have c2 : w2.cell? ⟨w.heap.size, 2, none⟩ = some (.int .i64 0) := ee.cell (i := 2) (by omega)
    have f2 := ee.frozen 2
    have c3 : w2.cell? ⟨w.heap.size, 3, none⟩ = some (.int .i64 0) := ee.cell (i := 3) (by omega)
    have f3 := ee.frozen 3
    have c4 : w2.cell? ⟨w.heap.size, 4, none⟩ = some (.int .i64 0) := ee.cell (i := 4) (by omega)
    have f4 := ee.frozen 4
    have c5 : w2.cell? ⟨w.heap.size, 5, none⟩ = some (.int .i64 0) := ee.cell (i := 5) (by omega)
    have f5 := ee.frozen 5
    have c6 : w2.cell? ⟨w.heap.size, 6, none⟩ = some (.int .i64 0) := ee.cell (i := 6) (by omega)
    have f6 := ee.frozen 6
    have c7 : w2.cell? ⟨w.heap.size, 7, none⟩ = some (.int .i64 0) := ee.cell (i := 7) (by omega)
    have f7 := ee.frozen 7
    clear ee
    have EF := hide ((unhide E2).put8 (op) (0) (0) (0) (dm) (dr) (dx) (0))
    go_wp2_with (go_at_call 59; refine (in_any _ _ _ _).mono ?_; rintro e w' ⟨rfl, hw'⟩; rw [hw']; clear hw' w')
    refine bodyPost_ret (results_cell_row (P := Try.prog) rfl _ _ w.heap.size 92 (cs8 [op, 0, 0, 0, dm, dr, dx, 0]) (0, 0) _ rfl (row8_heap (unhide EF).res) Try.underlying92 rfl (by kernel_rfl)) rfl ?_
    exact ⟨⟨op, ⟨0, 0, 0⟩, ⟨dm, dr, dx⟩, 0⟩, ok_B (by omega) okd rfl, rfl, (unhide EF).cur, (unhide EF).gr⟩
  by_cases hC : op ≤ 15
  · have q6 : decide (op ≤ 6) = false := by simp; omega
    have q15 : decide (op ≤ 15) = true := by simp; omega
    have q1 : (op == 15) = true := eqB_t _ _ (by omega)
    have P2 := hide (opdD_any cb a len cap xs _ (unhide E1).cur)
    go_wp2_with fail
    refine (unhide P2).mono ?_
    rintro e w2 ⟨⟨dm, dr, dx⟩, okd, rfl, hc, hg⟩
    unfold Od.v
    simp only
    have EE := hide ((unhide E1).draw hc hg)
    have RR := hide (row_draw (unhide R1) hg (by omega))
    clear hc hg P2
    have rr := unhide RR
    have x0 : w2.cell? ⟨w1.heap.size, 0, none⟩ = some (.int .i64 (op)) := rr.cell (i := 0) (by omega)
    have g0 := rr.frozen 0
    have x1 : w2.cell? ⟨w1.heap.size, 1, none⟩ = some (.int .i64 (0)) := rr.cell (i := 1) (by omega)
    have g1 := rr.frozen 1
    have x2 : w2.cell? ⟨w1.heap.size, 2, none⟩ = some (.int .i64 (0)) := rr.cell (i := 2) (by omega)
    have g2 := rr.frozen 2
    have x3 : w2.cell? ⟨w1.heap.size, 3, none⟩ = some (.int .i64 (0)) := rr.cell (i := 3) (by omega)
    have g3 := rr.frozen 3
    have x4 : w2.cell? ⟨w1.heap.size, 4, none⟩ = some (.int .i64 (0)) := rr.cell (i := 4) (by omega)
    have g4 := rr.frozen 4
    have x5 : w2.cell? ⟨w1.heap.size, 5, none⟩ = some (.int .i64 (0)) := rr.cell (i := 5) (by omega)
    have g5 := rr.frozen 5
    have x6 : w2.cell? ⟨w1.heap.size, 6, none⟩ = some (.int .i64 (0)) := rr.cell (i := 6) (by omega)
    have g6 := rr.frozen 6
    have x7 : w2.cell? ⟨w1.heap.size, 7, none⟩ = some (.int .i64 (0)) := rr.cell (i := 7) (by omega)
    have g7 := rr.frozen 7
    clear rr
    have E2 := hide ((((unhide EE).setO s1 4 (.int .i64 dm)).setO s1 5 (.int .i64 dr)).setO s1 6 (.int .i64 dx))
    have R2 := hide (row8_set (l' := [op, 0, 0, 0, dm, dr, dx, 0]) (row8_set (l' := [op, 0, 0, 0, dm, dr, 0, 0]) (row8_set (l' := [op, 0, 0, 0, dm, 0, 0, 0]) (unhide RR) 4 dm (fun j hj => by rcases j with _ | _ | _ | _ | _ | _ | _ | _ | j <;> first | rfl | omega)) 5 dr (fun j hj => by rcases j with _ | _ | _ | _ | _ | _ | _ | _ | j <;> first | rfl | omega)) 6 dx (fun j hj => by rcases j with _ | _ | _ | _ | _ | _ | _ | _ | j <;> first | rfl | omega))
    have EB2 := EE
    clear EE RR
    have P9 := hide (below_any cb a len cap xs 8 _ (by omega) (unhide E2).cur)
    go_wp2_with (go_at_call 59; refine (in_any _ _ _ _).mono ?_; rintro e w' ⟨rfl, hw'⟩; rw [hw']; clear hw' w')
    refine (unhide P9).mono ?_
    rintro e w9 ⟨n, hn0, hn1, rfl, hc, hg⟩
    obtain ⟨hn2, hn3⟩ := hn0 (by omega)
    have E9' := hide ((unhide E2).draw hc hg)
    have R9 := hide (row_draw (unhide R2) hg (by omega))
    clear hc hg P9 hn0 hn1
    clear x0 g0 x1 g1 x2 g2 x3 g3 x4 g4 x5 g5 x6 g6 x7 g7
    have rr := unhide R9
    have x0 : w9.cell? ⟨w1.heap.size, 0, none⟩ = some (.int .i64 (op)) := rr.cell (i := 0) (by omega)
    have g0 := rr.frozen 0
    have x1 : w9.cell? ⟨w1.heap.size, 1, none⟩ = some (.int .i64 (0)) := rr.cell (i := 1) (by omega)
    have g1 := rr.frozen 1
    have x2 : w9.cell? ⟨w1.heap.size, 2, none⟩ = some (.int .i64 (0)) := rr.cell (i := 2) (by omega)
    have g2 := rr.frozen 2
    have x3 : w9.cell? ⟨w1.heap.size, 3, none⟩ = some (.int .i64 (0)) := rr.cell (i := 3) (by omega)
    have g3 := rr.frozen 3
    have x4 : w9.cell? ⟨w1.heap.size, 4, none⟩ = some (.int .i64 (dm)) := rr.cell (i := 4) (by omega)
    have g4 := rr.frozen 4
    have x5 : w9.cell? ⟨w1.heap.size, 5, none⟩ = some (.int .i64 (dr)) := rr.cell (i := 5) (by omega)
    have g5 := rr.frozen 5
    have x6 : w9.cell? ⟨w1.heap.size, 6, none⟩ = some (.int .i64 (dx)) := rr.cell (i := 6) (by omega)
    have g6 := rr.frozen 6
    have x7 : w9.cell? ⟨w1.heap.size, 7, none⟩ = some (.int .i64 (0)) := rr.cell (i := 7) (by omega)
    have g7 := rr.frozen 7
    clear rr
    have E9 := hide ((unhide E9').setO s1 7 (.int .i64 n))
    have ee := (unhide E9').res
    have c0 : w9.cell? ⟨w.heap.size, 0, none⟩ = some (.int .i64 0) := ee.cell (i := 0) (by omega)
    have f0 := ee.frozen 0
    have c1 : w9.cell? ⟨w.heap.size, 1, none⟩ = some (.int .i64 0) := ee.cell (i := 1) (by omega)
    have f1 := ee.frozen 1
    have c2 : w9.cell? ⟨w.heap.size, 2, none⟩ = some (.int .i64 0) := ee.cell (i := 2) (by omega)
    have f2 := ee.frozen 2
    have c3 : w9.cell? ⟨w.heap.size, 3, none⟩ = some (.int .i64 0) := ee.cell (i := 3) (by omega)
    have f3 := ee.frozen 3
    have c4 : w9.cell? ⟨w.heap.size, 4, none⟩ = some (.int .i64 0) := ee.cell (i := 4) (by omega)
    have f4 := ee.frozen 4
    have c5 : w9.cell? ⟨w.heap.size, 5, none⟩ = some (.int .i64 0) := ee.cell (i := 5) (by omega)
    have f5 := ee.frozen 5
    have c6 : w9.cell? ⟨w.heap.size, 6, none⟩ = some (.int .i64 0) := ee.cell (i := 6) (by omega)
    have f6 := ee.frozen 6
    have c7 : w9.cell? ⟨w.heap.size, 7, none⟩ = some (.int .i64 0) := ee.cell (i := 7) (by omega)
    have f7 := ee.frozen 7
    clear ee
    have EF := hide ((unhide E9).put8 (op) (0) (0) (0) (dm) (dr) (dx) (n))
    go_wp2_with (go_at_call 59; refine (in_any _ _ _ _).mono ?_; rintro e w' ⟨rfl, hw'⟩; rw [hw']; clear hw' w')
    refine bodyPost_ret (results_cell_row (P := Try.prog) rfl _ _ w.heap.size 92 (cs8 [op, 0, 0, 0, dm, dr, dx, n]) (0, 0) _ rfl (row8_heap (unhide EF).res) Try.underlying92 rfl (by kernel_rfl)) rfl ?_
    exact ⟨⟨op, ⟨0, 0, 0⟩, ⟨dm, dr, dx⟩, n⟩, ok_C (by omega) okd (by omega), rfl, (unhide EF).cur, (unhide EF).gr⟩
  by_cases hD : op ≤ 16
  · have q6 : decide (op ≤ 6) = false := by simp; omega
    have q15 : decide (op ≤ 15) = false := by simp; omega
    have q1 : (op == 15) = false := eqB_f _ _ (by omega)
    have q2 : (op == 16) = true := eqB_t _ _ (by omega)
    have P9 := hide (below_any cb a len cap xs 8 _ (by omega) (unhide E1).cur)
    go_wp2_with (go_at_call 59; refine (in_any _ _ _ _).mono ?_; rintro e w' ⟨rfl, hw'⟩; rw [hw']; clear hw' w')
    refine (unhide P9).mono ?_
    rintro e w9 ⟨n, hn0, hn1, rfl, hc, hg⟩
    obtain ⟨hn2, hn3⟩ := hn0 (by omega)
    have E9' := hide ((unhide E1).draw hc hg)
    have R9 := hide (row_draw (unhide R1) hg (by omega))
    clear hc hg P9 hn0 hn1
    have rr := unhide R9
    have x0 : w9.cell? ⟨w1.heap.size, 0, none⟩ = some (.int .i64 (op)) := rr.cell (i := 0) (by omega)
    have g0 := rr.frozen 0
    have x1 : w9.cell? ⟨w1.heap.size, 1, none⟩ = some (.int .i64 (0)) := rr.cell (i := 1) (by omega)
    have g1 := rr.frozen 1
    have x2 : w9.cell? ⟨w1.heap.size, 2, none⟩ = some (.int .i64 (0)) := rr.cell (i := 2) (by omega)
    have g2 := rr.frozen 2
    have x3 : w9.cell? ⟨w1.heap.size, 3, none⟩ = some (.int .i64 (0)) := rr.cell (i := 3) (by omega)
    have g3 := rr.frozen 3
    have x4 : w9.cell? ⟨w1.heap.size, 4, none⟩ = some (.int .i64 (0)) := rr.cell (i := 4) (by omega)
    have g4 := rr.frozen 4
    have x5 : w9.cell? ⟨w1.heap.size, 5, none⟩ = some (.int .i64 (0)) := rr.cell (i := 5) (by omega)
    have g5 := rr.frozen 5
    have x6 : w9.cell? ⟨w1.heap.size, 6, none⟩ = some (.int .i64 (0)) := rr.cell (i := 6) (by omega)
    have g6 := rr.frozen 6
    have x7 : w9.cell? ⟨w1.heap.size, 7, none⟩ = some (.int .i64 (0)) := rr.cell (i := 7) (by omega)
    have g7 := rr.frozen 7
    clear rr
    have E9 := hide ((unhide E9').setO s1 7 (.int .i64 n))
    have ee := (unhide E9').res
    have c0 : w9.cell? ⟨w.heap.size, 0, none⟩ = some (.int .i64 0) := ee.cell (i := 0) (by omega)
    have f0 := ee.frozen 0
    have c1 : w9.cell? ⟨w.heap.size, 1, none⟩ = some (.int .i64 0) := ee.cell (i := 1) (by omega)
    have f1 := ee.frozen 1
    have c2 : w9.cell? ⟨w.heap.size, 2, none⟩ = some (.int .i64 0) := ee.cell (i := 2) (by omega)
    have f2 := ee.frozen 2
    have c3 : w9.cell? ⟨w.heap.size, 3, none⟩ = some (.int .i64 0) := ee.cell (i := 3) (by omega)
    have f3 := ee.frozen 3
    have c4 : w9.cell? ⟨w.heap.size, 4, none⟩ = some (.int .i64 0) := ee.cell (i := 4) (by omega)
    have f4 := ee.frozen 4
    have c5 : w9.cell? ⟨w.heap.size, 5, none⟩ = some (.int .i64 0) := ee.cell (i := 5) (by omega)
    have f5 := ee.frozen 5
    have c6 : w9.cell? ⟨w.heap.size, 6, none⟩ = some (.int .i64 0) := ee.cell (i := 6) (by omega)
    have f6 := ee.frozen 6
    have c7 : w9.cell? ⟨w.heap.size, 7, none⟩ = some (.int .i64 0) := ee.cell (i := 7) (by omega)
    have f7 := ee.frozen 7
    clear ee
    have EF := hide ((unhide E9).put8 (op) (0) (0) (0) (0) (0) (0) (n))
    go_wp2_with (go_at_call 59; refine (in_any _ _ _ _).mono ?_; rintro e w' ⟨rfl, hw'⟩; rw [hw']; clear hw' w')
    refine bodyPost_ret (results_cell_row (P := Try.prog) rfl _ _ w.heap.size 92 (cs8 [op, 0, 0, 0, 0, 0, 0, n]) (0, 0) _ rfl (row8_heap (unhide EF).res) Try.underlying92 rfl (by kernel_rfl)) rfl ?_
    exact ⟨⟨op, ⟨0, 0, 0⟩, ⟨0, 0, 0⟩, n⟩, ok_D (by omega) (by omega), rfl, (unhide EF).cur, (unhide EF).gr⟩
  by_cases hE : op ≤ 21
  · have q6 : decide (op ≤ 6) = false := by simp; omega
    have q15 : decide (op ≤ 15) = false := by simp; omega
    have q1 : (op == 15) = false := eqB_f _ _ (by omega)
    have q2 : (op == 16) = false := eqB_f _ _ (by omega)
    have q3 : inB op 17 21 = true := inB_t _ _ _ (by omega)
    have P9 := hide (int_lit cb a len cap xs (w1.alloc (Obj.cells (cs8 [op, 0, 0, 0, 0, 0, 0, 0]) 92)) (unhide E1).cur [-128, 127, 0, -1, 1, 2, -3] 7 rfl (by omega) (by omega) (w1.heap.size + 1) (by simp) _ rfl)
    go_wp2_with (go_at_call 59; refine (in_any _ _ _ _).mono ?_; rintro e w' ⟨rfl, hw'⟩; rw [hw']; clear hw' w')
    refine (unhide P9).mono ?_
    rintro e w9 ⟨j, hj, rfl, hc, hg⟩
    have hnb := ns7_bd ⟨j, hj⟩
    simp only at hnb
    generalize nAt [-128, 127, 0, -1, 1, 2, -3] j = n at hnb ⊢
    have E9' := hide (((unhide E1).alloc _).draw hc hg)
    have R9 := hide (row_draw (row_alloc (unhide R1) _) hg (by omega))
    clear hc hg P9 hj
    have rr := unhide R9
    have x0 : w9.cell? ⟨w1.heap.size, 0, none⟩ = some (.int .i64 (op)) := rr.cell (i := 0) (by omega)
    have g0 := rr.frozen 0
    have x1 : w9.cell? ⟨w1.heap.size, 1, none⟩ = some (.int .i64 (0)) := rr.cell (i := 1) (by omega)
    have g1 := rr.frozen 1
    have x2 : w9.cell? ⟨w1.heap.size, 2, none⟩ = some (.int .i64 (0)) := rr.cell (i := 2) (by omega)
    have g2 := rr.frozen 2
    have x3 : w9.cell? ⟨w1.heap.size, 3, none⟩ = some (.int .i64 (0)) := rr.cell (i := 3) (by omega)
    have g3 := rr.frozen 3
    have x4 : w9.cell? ⟨w1.heap.size, 4, none⟩ = some (.int .i64 (0)) := rr.cell (i := 4) (by omega)
    have g4 := rr.frozen 4
    have x5 : w9.cell? ⟨w1.heap.size, 5, none⟩ = some (.int .i64 (0)) := rr.cell (i := 5) (by omega)
    have g5 := rr.frozen 5
    have x6 : w9.cell? ⟨w1.heap.size, 6, none⟩ = some (.int .i64 (0)) := rr.cell (i := 6) (by omega)
    have g6 := rr.frozen 6
    have x7 : w9.cell? ⟨w1.heap.size, 7, none⟩ = some (.int .i64 (0)) := rr.cell (i := 7) (by omega)
    have g7 := rr.frozen 7
    clear rr
    have E9 := hide ((unhide E9').setO s1 7 (.int .i64 n))
    have ee := (unhide E9').res
    have c0 : w9.cell? ⟨w.heap.size, 0, none⟩ = some (.int .i64 0) := ee.cell (i := 0) (by omega)
    have f0 := ee.frozen 0
    have c1 : w9.cell? ⟨w.heap.size, 1, none⟩ = some (.int .i64 0) := ee.cell (i := 1) (by omega)
    have f1 := ee.frozen 1
    have c2 : w9.cell? ⟨w.heap.size, 2, none⟩ = some (.int .i64 0) := ee.cell (i := 2) (by omega)
    have f2 := ee.frozen 2
    have c3 : w9.cell? ⟨w.heap.size, 3, none⟩ = some (.int .i64 0) := ee.cell (i := 3) (by omega)
    have f3 := ee.frozen 3
    have c4 : w9.cell? ⟨w.heap.size, 4, none⟩ = some (.int .i64 0) := ee.cell (i := 4) (by omega)
    have f4 := ee.frozen 4
    have c5 : w9.cell? ⟨w.heap.size, 5, none⟩ = some (.int .i64 0) := ee.cell (i := 5) (by omega)
    have f5 := ee.frozen 5
    have c6 : w9.cell? ⟨w.heap.size, 6, none⟩ = some (.int .i64 0) := ee.cell (i := 6) (by omega)
    have f6 := ee.frozen 6
    have c7 : w9.cell? ⟨w.heap.size, 7, none⟩ = some (.int .i64 0) := ee.cell (i := 7) (by omega)
    have f7 := ee.frozen 7
    clear ee
    have EF := hide ((unhide E9).put8 (op) (0) (0) (0) (0) (0) (0) (n))
    go_wp2_with (go_at_call 59; refine (in_any _ _ _ _).mono ?_; rintro e w' ⟨rfl, hw'⟩; rw [hw']; clear hw' w')
    refine bodyPost_ret (results_cell_row (P := Try.prog) rfl _ _ w.heap.size 92 (cs8 [op, 0, 0, 0, 0, 0, 0, n]) (0, 0) _ rfl (row8_heap (unhide EF).res) Try.underlying92 rfl (by kernel_rfl)) rfl ?_
    exact ⟨⟨op, ⟨0, 0, 0⟩, ⟨0, 0, 0⟩, n⟩, ok_E (by omega) hnb, rfl, (unhide EF).cur, (unhide EF).gr⟩
  by_cases hF : op ≤ 22
  · have q6 : decide (op ≤ 6) = false := by simp; omega
    have q15 : decide (op ≤ 15) = false := by simp; omega
    have q1 : (op == 15) = false := eqB_f _ _ (by omega)
    have q2 : (op == 16) = false := eqB_f _ _ (by omega)
    have q3 : inB op 17 21 = false := inB_f _ _ _ (by omega)
    have q4 : (op == 23) = false := eqB_f _ _ (by omega)
    clear s1 hne
    have ee : ∀ o, (w1.alloc o).rowIs w.heap.size 92 8 (c8 [0, 0, 0, 0, 0, 0, 0, 0]) := fun o => ((unhide E1').alloc o).res
    have c0 : ∀ o, (w1.alloc o).cell? ⟨w.heap.size, 0, none⟩ = some (.int .i64 0) := fun o => (ee o).cell (i := 0) (by omega)
    have f0 : ∀ o, (w1.alloc o).frozen? ⟨w.heap.size, 0, none⟩ = false := fun o => (ee o).frozen 0
    have c1 : ∀ o, (w1.alloc o).cell? ⟨w.heap.size, 1, none⟩ = some (.int .i64 0) := fun o => (ee o).cell (i := 1) (by omega)
    have f1 : ∀ o, (w1.alloc o).frozen? ⟨w.heap.size, 1, none⟩ = false := fun o => (ee o).frozen 1
    have c2 : ∀ o, (w1.alloc o).cell? ⟨w.heap.size, 2, none⟩ = some (.int .i64 0) := fun o => (ee o).cell (i := 2) (by omega)
    have f2 : ∀ o, (w1.alloc o).frozen? ⟨w.heap.size, 2, none⟩ = false := fun o => (ee o).frozen 2
    have c3 : ∀ o, (w1.alloc o).cell? ⟨w.heap.size, 3, none⟩ = some (.int .i64 0) := fun o => (ee o).cell (i := 3) (by omega)
    have f3 : ∀ o, (w1.alloc o).frozen? ⟨w.heap.size, 3, none⟩ = false := fun o => (ee o).frozen 3
    have c4 : ∀ o, (w1.alloc o).cell? ⟨w.heap.size, 4, none⟩ = some (.int .i64 0) := fun o => (ee o).cell (i := 4) (by omega)
    have f4 : ∀ o, (w1.alloc o).frozen? ⟨w.heap.size, 4, none⟩ = false := fun o => (ee o).frozen 4
    have c5 : ∀ o, (w1.alloc o).cell? ⟨w.heap.size, 5, none⟩ = some (.int .i64 0) := fun o => (ee o).cell (i := 5) (by omega)
    have f5 : ∀ o, (w1.alloc o).frozen? ⟨w.heap.size, 5, none⟩ = false := fun o => (ee o).frozen 5
    have c6 : ∀ o, (w1.alloc o).cell? ⟨w.heap.size, 6, none⟩ = some (.int .i64 0) := fun o => (ee o).cell (i := 6) (by omega)
    have f6 : ∀ o, (w1.alloc o).frozen? ⟨w.heap.size, 6, none⟩ = false := fun o => (ee o).frozen 6
    have c7 : ∀ o, (w1.alloc o).cell? ⟨w.heap.size, 7, none⟩ = some (.int .i64 0) := fun o => (ee o).cell (i := 7) (by omega)
    have f7 : ∀ o, (w1.alloc o).frozen? ⟨w.heap.size, 7, none⟩ = false := fun o => (ee o).frozen 7
    clear ee
    have EF := hide ((unhide E1).put8 (op) (0) (0) (0) (0) (0) (0) (0))
    go_wp2_with (go_at_call 59; refine (in_any _ _ _ _).mono ?_; rintro e w' ⟨rfl, hw'⟩; rw [hw']; clear hw' w')
    refine bodyPost_ret (results_cell_row (P := Try.prog) rfl _ _ w.heap.size 92 (cs8 [op, 0, 0, 0, 0, 0, 0, 0]) (0, 0) _ rfl (row8_heap (unhide EF).res) Try.underlying92 rfl (by kernel_rfl)) rfl ?_
    exact ⟨⟨op, ⟨0, 0, 0⟩, ⟨0, 0, 0⟩, 0⟩, ok_F (by omega), rfl, (unhide EF).cur, (unhide EF).gr⟩
  have q6 : decide (op ≤ 6) = false := by simp; omega
  have q15 : decide (op ≤ 15) = false := by simp; omega
  have q1 : (op == 15) = false := eqB_f _ _ (by omega)
  have q2 : (op == 16) = false := eqB_f _ _ (by omega)
  have q3 : inB op 17 21 = false := inB_f _ _ _ (by omega)
  have q4 : (op == 23) = true := eqB_t _ _ (by omega)
  have P9 := hide (int_lit cb a len cap xs (w1.alloc (Obj.cells (cs8 [op, 0, 0, 0, 0, 0, 0, 0]) 92)) (unhide E1).cur [0, 1, 2, 255] 4 rfl (by omega) (by omega) (w1.heap.size + 1) (by simp) _ rfl)
  go_wp2_with (go_at_call 59; refine (in_any _ _ _ _).mono ?_; rintro e w' ⟨rfl, hw'⟩; rw [hw']; clear hw' w')
  refine (unhide P9).mono ?_
  rintro e w9 ⟨j, hj, rfl, hc, hg⟩
  have hnb := ns4_bd ⟨j, hj⟩
  simp only at hnb
  generalize nAt [0, 1, 2, 255] j = n at hnb ⊢
  have E9' := hide (((unhide E1).alloc _).draw hc hg)
  have R9 := hide (row_draw (row_alloc (unhide R1) _) hg (by omega))
  clear hc hg P9 hj
  have rr := unhide R9
  have x0 : w9.cell? ⟨w1.heap.size, 0, none⟩ = some (.int .i64 (op)) := rr.cell (i := 0) (by omega)
  have g0 := rr.frozen 0
  have x1 : w9.cell? ⟨w1.heap.size, 1, none⟩ = some (.int .i64 (0)) := rr.cell (i := 1) (by omega)
  have g1 := rr.frozen 1
  have x2 : w9.cell? ⟨w1.heap.size, 2, none⟩ = some (.int .i64 (0)) := rr.cell (i := 2) (by omega)
  have g2 := rr.frozen 2
  have x3 : w9.cell? ⟨w1.heap.size, 3, none⟩ = some (.int .i64 (0)) := rr.cell (i := 3) (by omega)
  have g3 := rr.frozen 3
  have x4 : w9.cell? ⟨w1.heap.size, 4, none⟩ = some (.int .i64 (0)) := rr.cell (i := 4) (by omega)
  have g4 := rr.frozen 4
  have x5 : w9.cell? ⟨w1.heap.size, 5, none⟩ = some (.int .i64 (0)) := rr.cell (i := 5) (by omega)
  have g5 := rr.frozen 5
  have x6 : w9.cell? ⟨w1.heap.size, 6, none⟩ = some (.int .i64 (0)) := rr.cell (i := 6) (by omega)
  have g6 := rr.frozen 6
  have x7 : w9.cell? ⟨w1.heap.size, 7, none⟩ = some (.int .i64 (0)) := rr.cell (i := 7) (by omega)
  have g7 := rr.frozen 7
  clear rr
  have E9 := hide ((unhide E9').setO s1 7 (.int .i64 n))
  have ee := (unhide E9').res
  have c0 : w9.cell? ⟨w.heap.size, 0, none⟩ = some (.int .i64 0) := ee.cell (i := 0) (by omega)
  have f0 := ee.frozen 0
  have c1 : w9.cell? ⟨w.heap.size, 1, none⟩ = some (.int .i64 0) := ee.cell (i := 1) (by omega)
  have f1 := ee.frozen 1
  have c2 : w9.cell? ⟨w.heap.size, 2, none⟩ = some (.int .i64 0) := ee.cell (i := 2) (by omega)
  have f2 := ee.frozen 2
  have c3 : w9.cell? ⟨w.heap.size, 3, none⟩ = some (.int .i64 0) := ee.cell (i := 3) (by omega)
  have f3 := ee.frozen 3
  have c4 : w9.cell? ⟨w.heap.size, 4, none⟩ = some (.int .i64 0) := ee.cell (i := 4) (by omega)
  have f4 := ee.frozen 4
  have c5 : w9.cell? ⟨w.heap.size, 5, none⟩ = some (.int .i64 0) := ee.cell (i := 5) (by omega)
  have f5 := ee.frozen 5
  have c6 : w9.cell? ⟨w.heap.size, 6, none⟩ = some (.int .i64 0) := ee.cell (i := 6) (by omega)
  have f6 := ee.frozen 6
  have c7 : w9.cell? ⟨w.heap.size, 7, none⟩ = some (.int .i64 0) := ee.cell (i := 7) (by omega)
  have f7 := ee.frozen 7
  clear ee
  have EF := hide ((unhide E9).put8 (op) (0) (0) (0) (0) (0) (0) (n))
  go_wp2_with (go_at_call 59; refine (in_any _ _ _ _).mono ?_; rintro e w' ⟨rfl, hw'⟩; rw [hw']; clear hw' w')
  refine bodyPost_ret (results_cell_row (P := Try.prog) rfl _ _ w.heap.size 92 (cs8 [op, 0, 0, 0, 0, 0, 0, n]) (0, 0) _ rfl (row8_heap (unhide EF).res) Try.underlying92 rfl (by kernel_rfl)) rfl ?_
  exact ⟨⟨op, ⟨0, 0, 0⟩, ⟨0, 0, 0⟩, n⟩, ok_G (by omega) hnb, rfl, (unhide EF).cur, (unhide EF).gr⟩
end Go.Proofs.Ytfkmibgamkignaa
