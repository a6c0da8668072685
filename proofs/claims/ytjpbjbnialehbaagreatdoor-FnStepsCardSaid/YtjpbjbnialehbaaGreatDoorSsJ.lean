/- Contracts over this seat's translation, laid together; conditions stand as hypotheses of each. -/
import Derived.Test.YtjpbjbnialehbaaGreatDoorSsD
namespace Go.Proofs.YtjpbjbnialehbaaGreatDoor
open Go.ChangeShapes Go.WideShapes Go.ChangeAt Go.RowKit
set_option maxHeartbeats 16000000
set_option linter.unusedVariables false
set_option maxRecDepth 8000
set_option linter.unusedSimpArgs false
theorem Ez.set8 {w wr : World} {cb : Nat} {a : Option Addr} {len cap : Nat} {xs : List UInt8} {l : List Int} (h : Ez w wr cb a len cap xs 69 8 (c8 l)) (k : Nat) (x : Int) (l' : List Int) (he : ∀ j, j < 8 → (if j = k then Value.int .i64 x else c8 l j) = c8 l' j) : Ez w (wr.setCell ⟨w.heap.size, k, none⟩ (.int .i64 x)) cb a len cap xs 69 8 (c8 l') :=
 h.setR k _ _ (row8_set h.res k x he)
theorem Ez.put8 {w wr : World} {cb : Nat} {a : Option Addr} {len cap : Nat} {xs : List UInt8} {y0 y1 y2 y3 y4 y5 y6 y7 : Int} (h : Ez w wr cb a len cap xs 69 8 (c8 [y0, y1, y2, y3, y4, y5, y6, y7])) (x0 x1 x2 x3 x4 x5 x6 x7 : Int) :
  Ez w ((((((((wr.setCell ⟨w.heap.size, 0, none⟩ (.int .i64 x0)).setCell ⟨w.heap.size, 1, none⟩ (.int .i64 x1)).setCell ⟨w.heap.size, 2, none⟩ (.int .i64 x2)).setCell ⟨w.heap.size, 3, none⟩ (.int .i64 x3)).setCell ⟨w.heap.size, 4, none⟩ (.int .i64 x4)).setCell ⟨w.heap.size, 5, none⟩ (.int .i64 x5)).setCell ⟨w.heap.size, 6, none⟩ (.int .i64 x6)).setCell ⟨w.heap.size, 7, none⟩ (.int .i64 x7)) cb a len cap xs 69 8 (c8 [x0, x1, x2, x3, x4, x5, x6, x7]) :=
 ((((((((h.set8 0 x0 [x0, y1, y2, y3, y4, y5, y6, y7] (fun j hj => by rcases j with _ | _ | _ | _ | _ | _ | _ | _ | j <;> first | rfl | omega)).set8 1 x1 [x0, x1, y2, y3, y4, y5, y6, y7] (fun j hj => by rcases j with _ | _ | _ | _ | _ | _ | _ | _ | j <;> first | rfl | omega)).set8 2 x2 [x0, x1, x2, y3, y4, y5, y6, y7] (fun j hj => by rcases j with _ | _ | _ | _ | _ | _ | _ | _ | j <;> first | rfl | omega)).set8 3 x3 [x0, x1, x2, x3, y4, y5, y6, y7] (fun j hj => by rcases j with _ | _ | _ | _ | _ | _ | _ | _ | j <;> first | rfl | omega)).set8 4 x4 [x0, x1, x2, x3, x4, y5, y6, y7] (fun j hj => by rcases j with _ | _ | _ | _ | _ | _ | _ | _ | j <;> first | rfl | omega)).set8 5 x5 [x0, x1, x2, x3, x4, x5, y6, y7] (fun j hj => by rcases j with _ | _ | _ | _ | _ | _ | _ | _ | j <;> first | rfl | omega)).set8 6 x6 [x0, x1, x2, x3, x4, x5, x6, y7] (fun j hj => by rcases j with _ | _ | _ | _ | _ | _ | _ | _ | j <;> first | rfl | omega)).set8 7 x7 [x0, x1, x2, x3, x4, x5, x6, x7] (fun j hj => by rcases j with _ | _ | _ | _ | _ | _ | _ | _ | j <;> first | rfl | omega))
theorem ok_A {op n : Int} {s d : Od} (h : 1 ≤ op ∧ op ≤ 6) (hs : s.ok = true) (hd : d.ok = true) (hn : n = 0) : Is.ok ⟨op, s, d, n⟩ = true := by
 unfold Is.ok
 rw [if_pos (inB_t _ _ _ h)]
 simp [hs, hd, hn]
theorem ok_B {op n : Int} {d : Od} (h : 7 ≤ op ∧ op ≤ 14) (hd : d.ok = true) (hn : n = 0) : Is.ok ⟨op, ⟨0, 0, 0⟩, d, n⟩ = true := by
 unfold Is.ok
 rw [if_neg (by rw [inB_f _ _ _ (by simp only; omega)]; simp), if_pos (inB_t _ _ _ h)]
 simp [hd, hn, Od.zero]
theorem ok_C {op n : Int} {d : Od} (h : op = 15) (hd : d.ok = true) (hn : 0 ≤ n ∧ n ≤ 7) : Is.ok ⟨op, ⟨0, 0, 0⟩, d, n⟩ = true := by
 subst h
 simp [Is.ok, inB, Od.zero, hd, hn.1, hn.2]
theorem ok_D {op n : Int} (h : op = 16) (hn : 0 ≤ n ∧ n ≤ 7) : Is.ok ⟨op, ⟨0, 0, 0⟩, ⟨0, 0, 0⟩, n⟩ = true := by
 subst h
 simp [Is.ok, inB, Od.zero, hn.1, hn.2]
theorem ok_E {op n : Int} (h : 17 ≤ op ∧ op ≤ 21) (hn : -128 ≤ n ∧ n ≤ 127) : Is.ok ⟨op, ⟨0, 0, 0⟩, ⟨0, 0, 0⟩, n⟩ = true := by
 unfold Is.ok
 rw [if_neg (by rw [inB_f _ _ _ (by simp only; omega)]; simp), if_neg (by rw [inB_f _ _ _ (by simp only; omega)]; simp), if_neg (by simp only; rw [eqB_f _ _ (by omega)]; simp), if_neg (by simp [Od.zero]), if_neg (by simp only; rw [eqB_f _ _ (by omega)]; simp), if_pos (inB_t _ _ _ h), inB_t _ _ _ hn]
theorem ok_F {op : Int} (h : op = 22) : Is.ok ⟨op, ⟨0, 0, 0⟩, ⟨0, 0, 0⟩, 0⟩ = true := by
 subst h
 rfl
theorem ok_G {op n : Int} (h : op = 23) (hn : 0 ≤ n ∧ n ≤ 255) : Is.ok ⟨op, ⟨0, 0, 0⟩, ⟨0, 0, 0⟩, n⟩ = true := by
 subst h
 simp [Is.ok, inB, Od.zero, hn.1, hn.2]
theorem ns7_bd : ∀ i : Fin 7, -128 ≤ nAt [-128, 127, 0, -1, 1, 2, -3] i.val ∧ nAt [-128, 127, 0, -1, 1, 2, -3] i.val ≤ 127 := by decide +kernel
theorem ns4_bd : ∀ i : Fin 4, 0 ≤ nAt [0, 1, 2, 255] i.val ∧ nAt [0, 1, 2, 255] i.val ≤ 255 := by decide +kernel
set_option maxRecDepth 100000 in
theorem drawD_any (cb : Nat) (a : Option Addr) (len cap : Nat) (xs : List UInt8) (w : World) (hc : Cur w cb a len cap xs) :
  Calls Tryz.prog 54 #[.pointer (some ⟨cb, 0, none⟩)] w fun e w' => ∃ i : Is, i.ok = true ∧ e = .returned i.v ∧ Cur w' cb a len cap xs ∧ w.grownBy w' (some cb) := by
 have hlt := hc.lt
 have E0 := hide (ez_new hc (cs8 [0, 0, 0, 0, 0, 0, 0, 0]) 69 8 (c8 [0, 0, 0, 0, 0, 0, 0, 0]) (row8 w [0, 0, 0, 0, 0, 0, 0, 0] 69))
 have I0 := hide (below_any cb a len cap xs 23 (w.alloc (Obj.cells (cs8 [0, 0, 0, 0, 0, 0, 0, 0]) 69)) (by omega) (uh E0).cur)
 clear hc
 go_enter Tryz.func54, Tryz.ntmps54
 go_wp2_with fail
 refine (uh I0).mono ?_
 rintro e w1 ⟨y, hy0, hy1, rfl, hc1, hg1⟩
 obtain ⟨hy2, hy3⟩ := hy0 (by omega)
 obtain ⟨op, hop⟩ : ∃ op, 1 + y = op := ⟨_, rfl⟩
 have hob : 1 ≤ op ∧ op ≤ 23 := by omega
 have E1' := hide ((uh E0).draw hc1 hg1)
 have E1 := hide ((uh E1').alloc (Obj.cells (cs8 [op, 0, 0, 0, 0, 0, 0, 0]) 69))
 have R1 := hide (row8 w1 [op, 0, 0, 0, 0, 0, 0, 0] 69)
 have s1 : w.heap.size < w1.heap.size := (uh E1').res.lt
 have hne : w.heap.size ≠ w1.heap.size := by omega
 clear hc1 hg1 I0 E0 hy0 hy1
 by_cases hA : op ≤ 6
 ·
  have q6 : decide (op ≤ 6) = true := by simp; omega
  have q15 : decide (op ≤ 15) = true := by simp; omega
  have q1 : (op == 15) = false := eqB_f _ _ (by omega)
  have q2 : (op == 16) = false := eqB_f _ _ (by omega)
  have q3 : inB op 17 21 = false := inB_f _ _ _ (by omega)
  have q4 : (op == 23) = false := eqB_f _ _ (by omega)
  have P2 := hide (opdD_any cb a len cap xs _ (uh E1).cur)
  go_wp2_with fail
  refine (uh P2).mono ?_
  rintro e w2 ⟨⟨sm, sr, sx⟩, oks, rfl, hc, hg⟩
  unfold Od.v
  simp only
  have EE := hide ((uh E1).draw hc hg)
  have RR := hide (row_draw (uh R1) hg (by omega))
  clear hc hg P2
  have rr := uh RR
  have x0 : w2.cell? ⟨w1.heap.size, 0, none⟩ = some (.int .i64 (op)) := rr.cell (i := 0) (by omega)
  have g0 := rr.frozen 0
  have x1 : w2.cell? ⟨w1.heap.size, 1, none⟩ = some (.int .i64 (0)) := rr.cell (i := 1) (by omega)
  have g1 := rr.frozen 1
  have x2 : w2.cell? ⟨w1.heap.size, 2, none⟩ = some (.int .i64 (0)) := rr.cell (i := 2) (by omega)
  have g2 := rr.frozen 2
  have x3 : w2.cell? ⟨w1.heap.size, 3, none⟩ = some (.int .i64 (0)) := rr.cell (i := 3) (by omega)
  have g3 := rr.frozen 3
  have x4 : w2.cell? ⟨w1.heap.size, 4, none⟩ = some (.int .i64 (0)) := rr.cell (i := 4) (by omega)
  have g4 := rr.frozen 4
  have x5 : w2.cell? ⟨w1.heap.size, 5, none⟩ = some (.int .i64 (0)) := rr.cell (i := 5) (by omega)
  have g5 := rr.frozen 5
  have x6 : w2.cell? ⟨w1.heap.size, 6, none⟩ = some (.int .i64 (0)) := rr.cell (i := 6) (by omega)
  have g6 := rr.frozen 6
  have x7 : w2.cell? ⟨w1.heap.size, 7, none⟩ = some (.int .i64 (0)) := rr.cell (i := 7) (by omega)
  have g7 := rr.frozen 7
  clear rr
  have E2 := hide ((((uh EE).setO s1 1 (.int .i64 sm)).setO s1 2 (.int .i64 sr)).setO s1 3 (.int .i64 sx))
  have R2 := hide (row8_set (l' := [op, sm, sr, sx, 0, 0, 0, 0]) (row8_set (l' := [op, sm, sr, 0, 0, 0, 0, 0]) (row8_set (l' := [op, sm, 0, 0, 0, 0, 0, 0]) (uh RR) 1 sm (fun j hj => by rcases j with _ | _ | _ | _ | _ | _ | _ | _ | j <;> first | rfl | omega)) 2 sr (fun j hj => by rcases j with _ | _ | _ | _ | _ | _ | _ | _ | j <;> first | rfl | omega)) 3 sx (fun j hj => by rcases j with _ | _ | _ | _ | _ | _ | _ | _ | j <;> first | rfl | omega))
  have EB2 := EE
  clear EE RR
  have P3 := hide (opdD_any cb a len cap xs _ (uh E2).cur)
  go_wp2_with fail
  refine (uh P3).mono ?_
  rintro e w3 ⟨⟨dm, dr, dx⟩, okd, rfl, hc, hg⟩
  unfold Od.v
  simp only
  have EE := hide ((uh E2).draw hc hg)
  have RR := hide (row_draw (uh R2) hg (by omega))
  clear hc hg P3
  clear x0 g0 x1 g1 x2 g2 x3 g3 x4 g4 x5 g5 x6 g6 x7 g7
  have rr := uh RR
  have x0 : w3.cell? ⟨w1.heap.size, 0, none⟩ = some (.int .i64 (op)) := rr.cell (i := 0) (by omega)
  have g0 := rr.frozen 0
  have x1 : w3.cell? ⟨w1.heap.size, 1, none⟩ = some (.int .i64 (sm)) := rr.cell (i := 1) (by omega)
  have g1 := rr.frozen 1
  have x2 : w3.cell? ⟨w1.heap.size, 2, none⟩ = some (.int .i64 (sr)) := rr.cell (i := 2) (by omega)
  have g2 := rr.frozen 2
  have x3 : w3.cell? ⟨w1.heap.size, 3, none⟩ = some (.int .i64 (sx)) := rr.cell (i := 3) (by omega)
  have g3 := rr.frozen 3
  have x4 : w3.cell? ⟨w1.heap.size, 4, none⟩ = some (.int .i64 (0)) := rr.cell (i := 4) (by omega)
  have g4 := rr.frozen 4
  have x5 : w3.cell? ⟨w1.heap.size, 5, none⟩ = some (.int .i64 (0)) := rr.cell (i := 5) (by omega)
  have g5 := rr.frozen 5
  have x6 : w3.cell? ⟨w1.heap.size, 6, none⟩ = some (.int .i64 (0)) := rr.cell (i := 6) (by omega)
  have g6 := rr.frozen 6
  have x7 : w3.cell? ⟨w1.heap.size, 7, none⟩ = some (.int .i64 (0)) := rr.cell (i := 7) (by omega)
  have g7 := rr.frozen 7
  clear rr
  have E3 := hide ((((uh EE).setO s1 4 (.int .i64 dm)).setO s1 5 (.int .i64 dr)).setO s1 6 (.int .i64 dx))
  have R3 := hide (row8_set (l' := [op, sm, sr, sx, dm, dr, dx, 0]) (row8_set (l' := [op, sm, sr, sx, dm, dr, 0, 0]) (row8_set (l' := [op, sm, sr, sx, dm, 0, 0, 0]) (uh RR) 4 dm (fun j hj => by rcases j with _ | _ | _ | _ | _ | _ | _ | _ | j <;> first | rfl | omega)) 5 dr (fun j hj => by rcases j with _ | _ | _ | _ | _ | _ | _ | _ | j <;> first | rfl | omega)) 6 dx (fun j hj => by rcases j with _ | _ | _ | _ | _ | _ | _ | _ | j <;> first | rfl | omega))
  have EB3 := EE
  clear EE RR
  have ee := (uh EB3).res
  have c0 : w3.cell? ⟨w.heap.size, 0, none⟩ = some (.int .i64 0) := ee.cell (i := 0) (by omega)
  have f0 := ee.frozen 0
  have c1 : w3.cell? ⟨w.heap.size, 1, none⟩ = some (.int .i64 0) := ee.cell (i := 1) (by omega)
  have f1 := ee.frozen 1
  have c2 : w3.cell? ⟨w.heap.size, 2, none⟩ = some (.int .i64 0) := ee.cell (i := 2) (by omega)
  have f2 := ee.frozen 2
  have c3 : w3.cell? ⟨w.heap.size, 3, none⟩ = some (.int .i64 0) := ee.cell (i := 3) (by omega)
  have f3 := ee.frozen 3
  have c4 : w3.cell? ⟨w.heap.size, 4, none⟩ = some (.int .i64 0) := ee.cell (i := 4) (by omega)
  have f4 := ee.frozen 4
  have c5 : w3.cell? ⟨w.heap.size, 5, none⟩ = some (.int .i64 0) := ee.cell (i := 5) (by omega)
  have f5 := ee.frozen 5
  have c6 : w3.cell? ⟨w.heap.size, 6, none⟩ = some (.int .i64 0) := ee.cell (i := 6) (by omega)
  have f6 := ee.frozen 6
  have c7 : w3.cell? ⟨w.heap.size, 7, none⟩ = some (.int .i64 0) := ee.cell (i := 7) (by omega)
  have f7 := ee.frozen 7
  clear ee
  have EF := hide ((uh E3).put8 (op) (sm) (sr) (sx) (dm) (dr) (dx) (0))
  go_wp2_with (go_at_call 31; refine (in_any _ _ _ _).mono ?_; rintro e w' ⟨rfl, hw'⟩; rw [hw']; clear hw' w')
  refine bodyPost_ret (results_cell_row (P := Tryz.prog) rfl _ _ w.heap.size 69 (cs8 [op, sm, sr, sx, dm, dr, dx, 0]) (0, 0) _ rfl (row8_heap (uh EF).res) Tryz.underlying69 rfl (by kernel_rfl)) rfl ?_
  exact ⟨⟨op, ⟨sm, sr, sx⟩, ⟨dm, dr, dx⟩, 0⟩, ok_A (by omega) oks okd rfl, rfl, (uh EF).cur, (uh EF).gr⟩
 by_cases hB : op ≤ 14
 ·
  have q6 : decide (op ≤ 6) = false := by simp; omega
  have q15 : decide (op ≤ 15) = true := by simp; omega
  have q1 : (op == 15) = false := eqB_f _ _ (by omega)
  have q2 : (op == 16) = false := eqB_f _ _ (by omega)
  have q3 : inB op 17 21 = false := inB_f _ _ _ (by omega)
  have q4 : (op == 23) = false := eqB_f _ _ (by omega)
  have P2 := hide (opdD_any cb a len cap xs _ (uh E1).cur)
  go_wp2_with fail
  refine (uh P2).mono ?_
  rintro e w2 ⟨⟨dm, dr, dx⟩, okd, rfl, hc, hg⟩
  unfold Od.v
  simp only
  have EE := hide ((uh E1).draw hc hg)
  have RR := hide (row_draw (uh R1) hg (by omega))
  clear hc hg P2
  have rr := uh RR
  have x0 : w2.cell? ⟨w1.heap.size, 0, none⟩ = some (.int .i64 (op)) := rr.cell (i := 0) (by omega)
  have g0 := rr.frozen 0
  have x1 : w2.cell? ⟨w1.heap.size, 1, none⟩ = some (.int .i64 (0)) := rr.cell (i := 1) (by omega)
  have g1 := rr.frozen 1
  have x2 : w2.cell? ⟨w1.heap.size, 2, none⟩ = some (.int .i64 (0)) := rr.cell (i := 2) (by omega)
  have g2 := rr.frozen 2
  have x3 : w2.cell? ⟨w1.heap.size, 3, none⟩ = some (.int .i64 (0)) := rr.cell (i := 3) (by omega)
  have g3 := rr.frozen 3
  have x4 : w2.cell? ⟨w1.heap.size, 4, none⟩ = some (.int .i64 (0)) := rr.cell (i := 4) (by omega)
  have g4 := rr.frozen 4
  have x5 : w2.cell? ⟨w1.heap.size, 5, none⟩ = some (.int .i64 (0)) := rr.cell (i := 5) (by omega)
  have g5 := rr.frozen 5
  have x6 : w2.cell? ⟨w1.heap.size, 6, none⟩ = some (.int .i64 (0)) := rr.cell (i := 6) (by omega)
  have g6 := rr.frozen 6
  have x7 : w2.cell? ⟨w1.heap.size, 7, none⟩ = some (.int .i64 (0)) := rr.cell (i := 7) (by omega)
  have g7 := rr.frozen 7
  clear rr
  have E2 := hide ((((uh EE).setO s1 4 (.int .i64 dm)).setO s1 5 (.int .i64 dr)).setO s1 6 (.int .i64 dx))
  have R2 := hide (row8_set (l' := [op, 0, 0, 0, dm, dr, dx, 0]) (row8_set (l' := [op, 0, 0, 0, dm, dr, 0, 0]) (row8_set (l' := [op, 0, 0, 0, dm, 0, 0, 0]) (uh RR) 4 dm (fun j hj => by rcases j with _ | _ | _ | _ | _ | _ | _ | _ | j <;> first | rfl | omega)) 5 dr (fun j hj => by rcases j with _ | _ | _ | _ | _ | _ | _ | _ | j <;> first | rfl | omega)) 6 dx (fun j hj => by rcases j with _ | _ | _ | _ | _ | _ | _ | _ | j <;> first | rfl | omega))
  have EB2 := EE
  clear EE RR
  have ee := (uh EB2).res
  have c0 : w2.cell? ⟨w.heap.size, 0, none⟩ = some (.int .i64 0) := ee.cell (i := 0) (by omega)
  have f0 := ee.frozen 0
  have c1 : w2.cell? ⟨w.heap.size, 1, none⟩ = some (.int .i64 0) := ee.cell (i := 1) (by omega)
  have f1 := ee.frozen 1
  have c2 : w2.cell? ⟨w.heap.size, 2, none⟩ = some (.int .i64 0) := ee.cell (i := 2) (by omega)
  have f2 := ee.frozen 2
  have c3 : w2.cell? ⟨w.heap.size, 3, none⟩ = some (.int .i64 0) := ee.cell (i := 3) (by omega)
  have f3 := ee.frozen 3
  have c4 : w2.cell? ⟨w.heap.size, 4, none⟩ = some (.int .i64 0) := ee.cell (i := 4) (by omega)
  have f4 := ee.frozen 4
  have c5 : w2.cell? ⟨w.heap.size, 5, none⟩ = some (.int .i64 0) := ee.cell (i := 5) (by omega)
  have f5 := ee.frozen 5
  have c6 : w2.cell? ⟨w.heap.size, 6, none⟩ = some (.int .i64 0) := ee.cell (i := 6) (by omega)
  have f6 := ee.frozen 6
  have c7 : w2.cell? ⟨w.heap.size, 7, none⟩ = some (.int .i64 0) := ee.cell (i := 7) (by omega)
  have f7 := ee.frozen 7
  clear ee
  have EF := hide ((uh E2).put8 (op) (0) (0) (0) (dm) (dr) (dx) (0))
  go_wp2_with (go_at_call 31; refine (in_any _ _ _ _).mono ?_; rintro e w' ⟨rfl, hw'⟩; rw [hw']; clear hw' w')
  refine bodyPost_ret (results_cell_row (P := Tryz.prog) rfl _ _ w.heap.size 69 (cs8 [op, 0, 0, 0, dm, dr, dx, 0]) (0, 0) _ rfl (row8_heap (uh EF).res) Tryz.underlying69 rfl (by kernel_rfl)) rfl ?_
  exact ⟨⟨op, ⟨0, 0, 0⟩, ⟨dm, dr, dx⟩, 0⟩, ok_B (by omega) okd rfl, rfl, (uh EF).cur, (uh EF).gr⟩
 by_cases hC : op ≤ 15
 ·
  have q6 : decide (op ≤ 6) = false := by simp; omega
  have q15 : decide (op ≤ 15) = true := by simp; omega
  have q1 : (op == 15) = true := eqB_t _ _ (by omega)
  have P2 := hide (opdD_any cb a len cap xs _ (uh E1).cur)
  go_wp2_with fail
  refine (uh P2).mono ?_
  rintro e w2 ⟨⟨dm, dr, dx⟩, okd, rfl, hc, hg⟩
  unfold Od.v
  simp only
  have EE := hide ((uh E1).draw hc hg)
  have RR := hide (row_draw (uh R1) hg (by omega))
  clear hc hg P2
  have rr := uh RR
  have x0 : w2.cell? ⟨w1.heap.size, 0, none⟩ = some (.int .i64 (op)) := rr.cell (i := 0) (by omega)
  have g0 := rr.frozen 0
  have x1 : w2.cell? ⟨w1.heap.size, 1, none⟩ = some (.int .i64 (0)) := rr.cell (i := 1) (by omega)
  have g1 := rr.frozen 1
  have x2 : w2.cell? ⟨w1.heap.size, 2, none⟩ = some (.int .i64 (0)) := rr.cell (i := 2) (by omega)
  have g2 := rr.frozen 2
  have x3 : w2.cell? ⟨w1.heap.size, 3, none⟩ = some (.int .i64 (0)) := rr.cell (i := 3) (by omega)
  have g3 := rr.frozen 3
  have x4 : w2.cell? ⟨w1.heap.size, 4, none⟩ = some (.int .i64 (0)) := rr.cell (i := 4) (by omega)
  have g4 := rr.frozen 4
  have x5 : w2.cell? ⟨w1.heap.size, 5, none⟩ = some (.int .i64 (0)) := rr.cell (i := 5) (by omega)
  have g5 := rr.frozen 5
  have x6 : w2.cell? ⟨w1.heap.size, 6, none⟩ = some (.int .i64 (0)) := rr.cell (i := 6) (by omega)
  have g6 := rr.frozen 6
  have x7 : w2.cell? ⟨w1.heap.size, 7, none⟩ = some (.int .i64 (0)) := rr.cell (i := 7) (by omega)
  have g7 := rr.frozen 7
  clear rr
  have E2 := hide ((((uh EE).setO s1 4 (.int .i64 dm)).setO s1 5 (.int .i64 dr)).setO s1 6 (.int .i64 dx))
  have R2 := hide (row8_set (l' := [op, 0, 0, 0, dm, dr, dx, 0]) (row8_set (l' := [op, 0, 0, 0, dm, dr, 0, 0]) (row8_set (l' := [op, 0, 0, 0, dm, 0, 0, 0]) (uh RR) 4 dm (fun j hj => by rcases j with _ | _ | _ | _ | _ | _ | _ | _ | j <;> first | rfl | omega)) 5 dr (fun j hj => by rcases j with _ | _ | _ | _ | _ | _ | _ | _ | j <;> first | rfl | omega)) 6 dx (fun j hj => by rcases j with _ | _ | _ | _ | _ | _ | _ | _ | j <;> first | rfl | omega))
  have EB2 := EE
  clear EE RR
  have P9 := hide (below_any cb a len cap xs 8 _ (by omega) (uh E2).cur)
  go_wp2_with (go_at_call 31; refine (in_any _ _ _ _).mono ?_; rintro e w' ⟨rfl, hw'⟩; rw [hw']; clear hw' w')
  refine (uh P9).mono ?_
  rintro e w9 ⟨n, hn0, hn1, rfl, hc, hg⟩
  obtain ⟨hn2, hn3⟩ := hn0 (by omega)
  have E9' := hide ((uh E2).draw hc hg)
  have R9 := hide (row_draw (uh R2) hg (by omega))
  clear hc hg P9 hn0 hn1
  clear x0 g0 x1 g1 x2 g2 x3 g3 x4 g4 x5 g5 x6 g6 x7 g7
  have rr := uh R9
  have x0 : w9.cell? ⟨w1.heap.size, 0, none⟩ = some (.int .i64 (op)) := rr.cell (i := 0) (by omega)
  have g0 := rr.frozen 0
  have x1 : w9.cell? ⟨w1.heap.size, 1, none⟩ = some (.int .i64 (0)) := rr.cell (i := 1) (by omega)
  have g1 := rr.frozen 1
  have x2 : w9.cell? ⟨w1.heap.size, 2, none⟩ = some (.int .i64 (0)) := rr.cell (i := 2) (by omega)
  have g2 := rr.frozen 2
  have x3 : w9.cell? ⟨w1.heap.size, 3, none⟩ = some (.int .i64 (0)) := rr.cell (i := 3) (by omega)
  have g3 := rr.frozen 3
  have x4 : w9.cell? ⟨w1.heap.size, 4, none⟩ = some (.int .i64 (dm)) := rr.cell (i := 4) (by omega)
  have g4 := rr.frozen 4
  have x5 : w9.cell? ⟨w1.heap.size, 5, none⟩ = some (.int .i64 (dr)) := rr.cell (i := 5) (by omega)
  have g5 := rr.frozen 5
  have x6 : w9.cell? ⟨w1.heap.size, 6, none⟩ = some (.int .i64 (dx)) := rr.cell (i := 6) (by omega)
  have g6 := rr.frozen 6
  have x7 : w9.cell? ⟨w1.heap.size, 7, none⟩ = some (.int .i64 (0)) := rr.cell (i := 7) (by omega)
  have g7 := rr.frozen 7
  clear rr
  have E9 := hide ((uh E9').setO s1 7 (.int .i64 n))
  have ee := (uh E9').res
  have c0 : w9.cell? ⟨w.heap.size, 0, none⟩ = some (.int .i64 0) := ee.cell (i := 0) (by omega)
  have f0 := ee.frozen 0
  have c1 : w9.cell? ⟨w.heap.size, 1, none⟩ = some (.int .i64 0) := ee.cell (i := 1) (by omega)
  have f1 := ee.frozen 1
  have c2 : w9.cell? ⟨w.heap.size, 2, none⟩ = some (.int .i64 0) := ee.cell (i := 2) (by omega)
  have f2 := ee.frozen 2
  have c3 : w9.cell? ⟨w.heap.size, 3, none⟩ = some (.int .i64 0) := ee.cell (i := 3) (by omega)
  have f3 := ee.frozen 3
  have c4 : w9.cell? ⟨w.heap.size, 4, none⟩ = some (.int .i64 0) := ee.cell (i := 4) (by omega)
  have f4 := ee.frozen 4
  have c5 : w9.cell? ⟨w.heap.size, 5, none⟩ = some (.int .i64 0) := ee.cell (i := 5) (by omega)
  have f5 := ee.frozen 5
  have c6 : w9.cell? ⟨w.heap.size, 6, none⟩ = some (.int .i64 0) := ee.cell (i := 6) (by omega)
  have f6 := ee.frozen 6
  have c7 : w9.cell? ⟨w.heap.size, 7, none⟩ = some (.int .i64 0) := ee.cell (i := 7) (by omega)
  have f7 := ee.frozen 7
  clear ee
  have EF := hide ((uh E9).put8 (op) (0) (0) (0) (dm) (dr) (dx) (n))
  go_wp2_with (go_at_call 31; refine (in_any _ _ _ _).mono ?_; rintro e w' ⟨rfl, hw'⟩; rw [hw']; clear hw' w')
  refine bodyPost_ret (results_cell_row (P := Tryz.prog) rfl _ _ w.heap.size 69 (cs8 [op, 0, 0, 0, dm, dr, dx, n]) (0, 0) _ rfl (row8_heap (uh EF).res) Tryz.underlying69 rfl (by kernel_rfl)) rfl ?_
  exact ⟨⟨op, ⟨0, 0, 0⟩, ⟨dm, dr, dx⟩, n⟩, ok_C (by omega) okd (by omega), rfl, (uh EF).cur, (uh EF).gr⟩
 by_cases hD : op ≤ 16
 ·
  have q6 : decide (op ≤ 6) = false := by simp; omega
  have q15 : decide (op ≤ 15) = false := by simp; omega
  have q1 : (op == 15) = false := eqB_f _ _ (by omega)
  have q2 : (op == 16) = true := eqB_t _ _ (by omega)
  have P9 := hide (below_any cb a len cap xs 8 _ (by omega) (uh E1).cur)
  go_wp2_with (go_at_call 31; refine (in_any _ _ _ _).mono ?_; rintro e w' ⟨rfl, hw'⟩; rw [hw']; clear hw' w')
  refine (uh P9).mono ?_
  rintro e w9 ⟨n, hn0, hn1, rfl, hc, hg⟩
  obtain ⟨hn2, hn3⟩ := hn0 (by omega)
  have E9' := hide ((uh E1).draw hc hg)
  have R9 := hide (row_draw (uh R1) hg (by omega))
  clear hc hg P9 hn0 hn1
  have rr := uh R9
  have x0 : w9.cell? ⟨w1.heap.size, 0, none⟩ = some (.int .i64 (op)) := rr.cell (i := 0) (by omega)
  have g0 := rr.frozen 0
  have x1 : w9.cell? ⟨w1.heap.size, 1, none⟩ = some (.int .i64 (0)) := rr.cell (i := 1) (by omega)
  have g1 := rr.frozen 1
  have x2 : w9.cell? ⟨w1.heap.size, 2, none⟩ = some (.int .i64 (0)) := rr.cell (i := 2) (by omega)
  have g2 := rr.frozen 2
  have x3 : w9.cell? ⟨w1.heap.size, 3, none⟩ = some (.int .i64 (0)) := rr.cell (i := 3) (by omega)
  have g3 := rr.frozen 3
  have x4 : w9.cell? ⟨w1.heap.size, 4, none⟩ = some (.int .i64 (0)) := rr.cell (i := 4) (by omega)
  have g4 := rr.frozen 4
  have x5 : w9.cell? ⟨w1.heap.size, 5, none⟩ = some (.int .i64 (0)) := rr.cell (i := 5) (by omega)
  have g5 := rr.frozen 5
  have x6 : w9.cell? ⟨w1.heap.size, 6, none⟩ = some (.int .i64 (0)) := rr.cell (i := 6) (by omega)
  have g6 := rr.frozen 6
  have x7 : w9.cell? ⟨w1.heap.size, 7, none⟩ = some (.int .i64 (0)) := rr.cell (i := 7) (by omega)
  have g7 := rr.frozen 7
  clear rr
  have E9 := hide ((uh E9').setO s1 7 (.int .i64 n))
  have ee := (uh E9').res
  have c0 : w9.cell? ⟨w.heap.size, 0, none⟩ = some (.int .i64 0) := ee.cell (i := 0) (by omega)
  have f0 := ee.frozen 0
  have c1 : w9.cell? ⟨w.heap.size, 1, none⟩ = some (.int .i64 0) := ee.cell (i := 1) (by omega)
  have f1 := ee.frozen 1
  have c2 : w9.cell? ⟨w.heap.size, 2, none⟩ = some (.int .i64 0) := ee.cell (i := 2) (by omega)
  have f2 := ee.frozen 2
  have c3 : w9.cell? ⟨w.heap.size, 3, none⟩ = some (.int .i64 0) := ee.cell (i := 3) (by omega)
  have f3 := ee.frozen 3
  have c4 : w9.cell? ⟨w.heap.size, 4, none⟩ = some (.int .i64 0) := ee.cell (i := 4) (by omega)
  have f4 := ee.frozen 4
  have c5 : w9.cell? ⟨w.heap.size, 5, none⟩ = some (.int .i64 0) := ee.cell (i := 5) (by omega)
  have f5 := ee.frozen 5
  have c6 : w9.cell? ⟨w.heap.size, 6, none⟩ = some (.int .i64 0) := ee.cell (i := 6) (by omega)
  have f6 := ee.frozen 6
  have c7 : w9.cell? ⟨w.heap.size, 7, none⟩ = some (.int .i64 0) := ee.cell (i := 7) (by omega)
  have f7 := ee.frozen 7
  clear ee
  have EF := hide ((uh E9).put8 (op) (0) (0) (0) (0) (0) (0) (n))
  go_wp2_with (go_at_call 31; refine (in_any _ _ _ _).mono ?_; rintro e w' ⟨rfl, hw'⟩; rw [hw']; clear hw' w')
  refine bodyPost_ret (results_cell_row (P := Tryz.prog) rfl _ _ w.heap.size 69 (cs8 [op, 0, 0, 0, 0, 0, 0, n]) (0, 0) _ rfl (row8_heap (uh EF).res) Tryz.underlying69 rfl (by kernel_rfl)) rfl ?_
  exact ⟨⟨op, ⟨0, 0, 0⟩, ⟨0, 0, 0⟩, n⟩, ok_D (by omega) (by omega), rfl, (uh EF).cur, (uh EF).gr⟩
 by_cases hE : op ≤ 21
 ·
  have q6 : decide (op ≤ 6) = false := by simp; omega
  have q15 : decide (op ≤ 15) = false := by simp; omega
  have q1 : (op == 15) = false := eqB_f _ _ (by omega)
  have q2 : (op == 16) = false := eqB_f _ _ (by omega)
  have q3 : inB op 17 21 = true := inB_t _ _ _ (by omega)
  have P9 := hide (int_lit cb a len cap xs (w1.alloc (Obj.cells (cs8 [op, 0, 0, 0, 0, 0, 0, 0]) 69)) (uh E1).cur [-128, 127, 0, -1, 1, 2, -3] 7 rfl (by omega) (by omega) (w1.heap.size + 1) (by simp) _ rfl)
  go_wp2_with (go_at_call 31; refine (in_any _ _ _ _).mono ?_; rintro e w' ⟨rfl, hw'⟩; rw [hw']; clear hw' w')
  refine (uh P9).mono ?_
  rintro e w9 ⟨j, hj, rfl, hc, hg⟩
  have hnb := ns7_bd ⟨j, hj⟩
  simp only at hnb
  generalize nAt [-128, 127, 0, -1, 1, 2, -3] j = n at hnb ⊢
  have E9' := hide (((uh E1).alloc _).draw hc hg)
  have R9 := hide (row_draw (row_alloc (uh R1) _) hg (by omega))
  clear hc hg P9 hj
  have rr := uh R9
  have x0 : w9.cell? ⟨w1.heap.size, 0, none⟩ = some (.int .i64 (op)) := rr.cell (i := 0) (by omega)
  have g0 := rr.frozen 0
  have x1 : w9.cell? ⟨w1.heap.size, 1, none⟩ = some (.int .i64 (0)) := rr.cell (i := 1) (by omega)
  have g1 := rr.frozen 1
  have x2 : w9.cell? ⟨w1.heap.size, 2, none⟩ = some (.int .i64 (0)) := rr.cell (i := 2) (by omega)
  have g2 := rr.frozen 2
  have x3 : w9.cell? ⟨w1.heap.size, 3, none⟩ = some (.int .i64 (0)) := rr.cell (i := 3) (by omega)
  have g3 := rr.frozen 3
  have x4 : w9.cell? ⟨w1.heap.size, 4, none⟩ = some (.int .i64 (0)) := rr.cell (i := 4) (by omega)
  have g4 := rr.frozen 4
  have x5 : w9.cell? ⟨w1.heap.size, 5, none⟩ = some (.int .i64 (0)) := rr.cell (i := 5) (by omega)
  have g5 := rr.frozen 5
  have x6 : w9.cell? ⟨w1.heap.size, 6, none⟩ = some (.int .i64 (0)) := rr.cell (i := 6) (by omega)
  have g6 := rr.frozen 6
  have x7 : w9.cell? ⟨w1.heap.size, 7, none⟩ = some (.int .i64 (0)) := rr.cell (i := 7) (by omega)
  have g7 := rr.frozen 7
  clear rr
  have E9 := hide ((uh E9').setO s1 7 (.int .i64 n))
  have ee := (uh E9').res
  have c0 : w9.cell? ⟨w.heap.size, 0, none⟩ = some (.int .i64 0) := ee.cell (i := 0) (by omega)
  have f0 := ee.frozen 0
  have c1 : w9.cell? ⟨w.heap.size, 1, none⟩ = some (.int .i64 0) := ee.cell (i := 1) (by omega)
  have f1 := ee.frozen 1
  have c2 : w9.cell? ⟨w.heap.size, 2, none⟩ = some (.int .i64 0) := ee.cell (i := 2) (by omega)
  have f2 := ee.frozen 2
  have c3 : w9.cell? ⟨w.heap.size, 3, none⟩ = some (.int .i64 0) := ee.cell (i := 3) (by omega)
  have f3 := ee.frozen 3
  have c4 : w9.cell? ⟨w.heap.size, 4, none⟩ = some (.int .i64 0) := ee.cell (i := 4) (by omega)
  have f4 := ee.frozen 4
  have c5 : w9.cell? ⟨w.heap.size, 5, none⟩ = some (.int .i64 0) := ee.cell (i := 5) (by omega)
  have f5 := ee.frozen 5
  have c6 : w9.cell? ⟨w.heap.size, 6, none⟩ = some (.int .i64 0) := ee.cell (i := 6) (by omega)
  have f6 := ee.frozen 6
  have c7 : w9.cell? ⟨w.heap.size, 7, none⟩ = some (.int .i64 0) := ee.cell (i := 7) (by omega)
  have f7 := ee.frozen 7
  clear ee
  have EF := hide ((uh E9).put8 (op) (0) (0) (0) (0) (0) (0) (n))
  go_wp2_with (go_at_call 31; refine (in_any _ _ _ _).mono ?_; rintro e w' ⟨rfl, hw'⟩; rw [hw']; clear hw' w')
  refine bodyPost_ret (results_cell_row (P := Tryz.prog) rfl _ _ w.heap.size 69 (cs8 [op, 0, 0, 0, 0, 0, 0, n]) (0, 0) _ rfl (row8_heap (uh EF).res) Tryz.underlying69 rfl (by kernel_rfl)) rfl ?_
  exact ⟨⟨op, ⟨0, 0, 0⟩, ⟨0, 0, 0⟩, n⟩, ok_E (by omega) hnb, rfl, (uh EF).cur, (uh EF).gr⟩
 by_cases hF : op ≤ 22
 ·
  have q6 : decide (op ≤ 6) = false := by simp; omega
  have q15 : decide (op ≤ 15) = false := by simp; omega
  have q1 : (op == 15) = false := eqB_f _ _ (by omega)
  have q2 : (op == 16) = false := eqB_f _ _ (by omega)
  have q3 : inB op 17 21 = false := inB_f _ _ _ (by omega)
  have q4 : (op == 23) = false := eqB_f _ _ (by omega)
  clear s1 hne
  have ee : ∀ o, (w1.alloc o).rowIs w.heap.size 69 8 (c8 [0, 0, 0, 0, 0, 0, 0, 0]) := fun o => ((uh E1').alloc o).res
  have c0 : ∀ o, (w1.alloc o).cell? ⟨w.heap.size, 0, none⟩ = some (.int .i64 0) := fun o => (ee o).cell (i := 0) (by omega)
  have f0 : ∀ o, (w1.alloc o).frozen? ⟨w.heap.size, 0, none⟩ = false := fun o => (ee o).frozen 0
  have c1 : ∀ o, (w1.alloc o).cell? ⟨w.heap.size, 1, none⟩ = some (.int .i64 0) := fun o => (ee o).cell (i := 1) (by omega)
  have f1 : ∀ o, (w1.alloc o).frozen? ⟨w.heap.size, 1, none⟩ = false := fun o => (ee o).frozen 1
  have c2 : ∀ o, (w1.alloc o).cell? ⟨w.heap.size, 2, none⟩ = some (.int .i64 0) := fun o => (ee o).cell (i := 2) (by omega)
  have f2 : ∀ o, (w1.alloc o).frozen? ⟨w.heap.size, 2, none⟩ = false := fun o => (ee o).frozen 2
  have c3 : ∀ o, (w1.alloc o).cell? ⟨w.heap.size, 3, none⟩ = some (.int .i64 0) := fun o => (ee o).cell (i := 3) (by omega)
  have f3 : ∀ o, (w1.alloc o).frozen? ⟨w.heap.size, 3, none⟩ = false := fun o => (ee o).frozen 3
  have c4 : ∀ o, (w1.alloc o).cell? ⟨w.heap.size, 4, none⟩ = some (.int .i64 0) := fun o => (ee o).cell (i := 4) (by omega)
  have f4 : ∀ o, (w1.alloc o).frozen? ⟨w.heap.size, 4, none⟩ = false := fun o => (ee o).frozen 4
  have c5 : ∀ o, (w1.alloc o).cell? ⟨w.heap.size, 5, none⟩ = some (.int .i64 0) := fun o => (ee o).cell (i := 5) (by omega)
  have f5 : ∀ o, (w1.alloc o).frozen? ⟨w.heap.size, 5, none⟩ = false := fun o => (ee o).frozen 5
  have c6 : ∀ o, (w1.alloc o).cell? ⟨w.heap.size, 6, none⟩ = some (.int .i64 0) := fun o => (ee o).cell (i := 6) (by omega)
  have f6 : ∀ o, (w1.alloc o).frozen? ⟨w.heap.size, 6, none⟩ = false := fun o => (ee o).frozen 6
  have c7 : ∀ o, (w1.alloc o).cell? ⟨w.heap.size, 7, none⟩ = some (.int .i64 0) := fun o => (ee o).cell (i := 7) (by omega)
  have f7 : ∀ o, (w1.alloc o).frozen? ⟨w.heap.size, 7, none⟩ = false := fun o => (ee o).frozen 7
  clear ee
  have EF := hide ((uh E1).put8 (op) (0) (0) (0) (0) (0) (0) (0))
  go_wp2_with (go_at_call 31; refine (in_any _ _ _ _).mono ?_; rintro e w' ⟨rfl, hw'⟩; rw [hw']; clear hw' w')
  refine bodyPost_ret (results_cell_row (P := Tryz.prog) rfl _ _ w.heap.size 69 (cs8 [op, 0, 0, 0, 0, 0, 0, 0]) (0, 0) _ rfl (row8_heap (uh EF).res) Tryz.underlying69 rfl (by kernel_rfl)) rfl ?_
  exact ⟨⟨op, ⟨0, 0, 0⟩, ⟨0, 0, 0⟩, 0⟩, ok_F (by omega), rfl, (uh EF).cur, (uh EF).gr⟩
 have q6 : decide (op ≤ 6) = false := by simp; omega
 have q15 : decide (op ≤ 15) = false := by simp; omega
 have q1 : (op == 15) = false := eqB_f _ _ (by omega)
 have q2 : (op == 16) = false := eqB_f _ _ (by omega)
 have q3 : inB op 17 21 = false := inB_f _ _ _ (by omega)
 have q4 : (op == 23) = true := eqB_t _ _ (by omega)
 have P9 := hide (int_lit cb a len cap xs (w1.alloc (Obj.cells (cs8 [op, 0, 0, 0, 0, 0, 0, 0]) 69)) (uh E1).cur [0, 1, 2, 255] 4 rfl (by omega) (by omega) (w1.heap.size + 1) (by simp) _ rfl)
 go_wp2_with (go_at_call 31; refine (in_any _ _ _ _).mono ?_; rintro e w' ⟨rfl, hw'⟩; rw [hw']; clear hw' w')
 refine (uh P9).mono ?_
 rintro e w9 ⟨j, hj, rfl, hc, hg⟩
 have hnb := ns4_bd ⟨j, hj⟩
 simp only at hnb
 generalize nAt [0, 1, 2, 255] j = n at hnb ⊢
 have E9' := hide (((uh E1).alloc _).draw hc hg)
 have R9 := hide (row_draw (row_alloc (uh R1) _) hg (by omega))
 clear hc hg P9 hj
 have rr := uh R9
 have x0 : w9.cell? ⟨w1.heap.size, 0, none⟩ = some (.int .i64 (op)) := rr.cell (i := 0) (by omega)
 have g0 := rr.frozen 0
 have x1 : w9.cell? ⟨w1.heap.size, 1, none⟩ = some (.int .i64 (0)) := rr.cell (i := 1) (by omega)
 have g1 := rr.frozen 1
 have x2 : w9.cell? ⟨w1.heap.size, 2, none⟩ = some (.int .i64 (0)) := rr.cell (i := 2) (by omega)
 have g2 := rr.frozen 2
 have x3 : w9.cell? ⟨w1.heap.size, 3, none⟩ = some (.int .i64 (0)) := rr.cell (i := 3) (by omega)
 have g3 := rr.frozen 3
 have x4 : w9.cell? ⟨w1.heap.size, 4, none⟩ = some (.int .i64 (0)) := rr.cell (i := 4) (by omega)
 have g4 := rr.frozen 4
 have x5 : w9.cell? ⟨w1.heap.size, 5, none⟩ = some (.int .i64 (0)) := rr.cell (i := 5) (by omega)
 have g5 := rr.frozen 5
 have x6 : w9.cell? ⟨w1.heap.size, 6, none⟩ = some (.int .i64 (0)) := rr.cell (i := 6) (by omega)
 have g6 := rr.frozen 6
 have x7 : w9.cell? ⟨w1.heap.size, 7, none⟩ = some (.int .i64 (0)) := rr.cell (i := 7) (by omega)
 have g7 := rr.frozen 7
 clear rr
 have E9 := hide ((uh E9').setO s1 7 (.int .i64 n))
 have ee := (uh E9').res
 have c0 : w9.cell? ⟨w.heap.size, 0, none⟩ = some (.int .i64 0) := ee.cell (i := 0) (by omega)
 have f0 := ee.frozen 0
 have c1 : w9.cell? ⟨w.heap.size, 1, none⟩ = some (.int .i64 0) := ee.cell (i := 1) (by omega)
 have f1 := ee.frozen 1
 have c2 : w9.cell? ⟨w.heap.size, 2, none⟩ = some (.int .i64 0) := ee.cell (i := 2) (by omega)
 have f2 := ee.frozen 2
 have c3 : w9.cell? ⟨w.heap.size, 3, none⟩ = some (.int .i64 0) := ee.cell (i := 3) (by omega)
 have f3 := ee.frozen 3
 have c4 : w9.cell? ⟨w.heap.size, 4, none⟩ = some (.int .i64 0) := ee.cell (i := 4) (by omega)
 have f4 := ee.frozen 4
 have c5 : w9.cell? ⟨w.heap.size, 5, none⟩ = some (.int .i64 0) := ee.cell (i := 5) (by omega)
 have f5 := ee.frozen 5
 have c6 : w9.cell? ⟨w.heap.size, 6, none⟩ = some (.int .i64 0) := ee.cell (i := 6) (by omega)
 have f6 := ee.frozen 6
 have c7 : w9.cell? ⟨w.heap.size, 7, none⟩ = some (.int .i64 0) := ee.cell (i := 7) (by omega)
 have f7 := ee.frozen 7
 clear ee
 have EF := hide ((uh E9).put8 (op) (0) (0) (0) (0) (0) (0) (n))
 go_wp2_with (go_at_call 31; refine (in_any _ _ _ _).mono ?_; rintro e w' ⟨rfl, hw'⟩; rw [hw']; clear hw' w')
 refine bodyPost_ret (results_cell_row (P := Tryz.prog) rfl _ _ w.heap.size 69 (cs8 [op, 0, 0, 0, 0, 0, 0, n]) (0, 0) _ rfl (row8_heap (uh EF).res) Tryz.underlying69 rfl (by kernel_rfl)) rfl ?_
 exact ⟨⟨op, ⟨0, 0, 0⟩, ⟨0, 0, 0⟩, n⟩, ok_G (by omega) hnb, rfl, (uh EF).cur, (uh EF).gr⟩
theorem encS_A (k : Nat) (sm sr sx dm dr dx n : Int) (w : World) (hok : Is.ok ⟨(k : Int), ⟨sm, sr, sx⟩, ⟨dm, dr, dx⟩, n⟩ = true) (h1 : (k : Int) ≤ 6) :
  Calls Tryz.prog 53 #[.agg #[.int .i64 (k : Int), .int .i64 sm, .int .i64 sr, .int .i64 sx, .int .i64 dm, .int .i64 dr, .int .i64 dx, .int .i64 n]] w fun e w' => ∃ v, e = .returned v ∧ v ≠ .slice none 0 0 ∧ OwnN w' w.heap.size v (Is.code ⟨(k : Int), ⟨sm, sr, sx⟩, ⟨dm, dr, dx⟩, n⟩ :: Is.xs ⟨(k : Int), ⟨sm, sr, sx⟩, ⟨dm, dr, dx⟩, n⟩) ∧ Below w.heap.size w w' := by
 obtain ⟨i0, hi, hz0, hz1, hz2⟩ := info_parts info3
 have HZ := hide (show (w.alloc (Obj.cells #[.int .i64 (k : Int), .int .i64 sm, .int .i64 sr, .int .i64 sx, .int .i64 dm, .int .i64 dr, .int .i64 dx, .int .i64 n] 69)).heap.size = w.heap.size + 1 by simp)
 have HCL := hide (box_cells w #[.int .i64 (k : Int), .int .i64 sm, .int .i64 sr, .int .i64 sx, .int .i64 dm, .int .i64 dr, .int .i64 dx, .int .i64 n] 69)
 have HB := hide (box_below w (Obj.cells #[.int .i64 (k : Int), .int .i64 sm, .int .i64 sr, .int .i64 sx, .int .i64 dm, .int .i64 dr, .int .i64 dx, .int .i64 n] 69))
 have Bz : Below (w.heap.size + 1) (w.alloc (Obj.cells #[.int .i64 (k : Int), .int .i64 sm, .int .i64 sr, .int .i64 sx, .int .i64 dm, .int .i64 dr, .int .i64 dx, .int .i64 n] 69)) (w.alloc (Obj.cells #[.int .i64 (k : Int), .int .i64 sm, .int .i64 sr, .int .i64 sx, .int .i64 dm, .int .i64 dr, .int .i64 dx, .int .i64 n] 69)) := Below.refl _ _
 obtain ⟨⟨q1, q2⟩, q3, q4, q5, q6, q7, q8, q9, q10, q11⟩ := is_ok hok
 simp only at q1 q2 q3 q4 q5 q6 q7 q8 q9 q10 q11
 have hbb := base_bd ⟨k, by omega⟩
 simp only at hbb
 obtain ⟨b, hbk⟩ : ∃ b, baseAt k = b := ⟨_, rfl⟩
 rw [hbk] at hbb
 obtain ⟨p, hp6⟩ : ∃ p, Od.six ⟨sm, sr, sx⟩ = p := ⟨_, rfl⟩
 obtain ⟨q, hq6⟩ : ∃ q, Od.six ⟨dm, dr, dx⟩ = q := ⟨_, rfl⟩
 obtain ⟨sX, hsX⟩ : ∃ q, Od.hasX ⟨sm, sr, sx⟩ = q := ⟨_, rfl⟩
 obtain ⟨dX, hdX⟩ : ∃ q, Od.hasX ⟨dm, dr, dx⟩ = q := ⟨_, rfl⟩
 have hS := (od_ok (q3 (by omega))).1
 simp only at hS
 have hpb : 0 ≤ p ∧ p ≤ 63 := by rw [← hp6]; unfold Od.six; simp only; omega
 have hD := (od_ok (q4 (by omega))).1
 simp only at hD
 have hqb : 0 ≤ q ∧ q ≤ 63 := by rw [← hq6]; unfold Od.six; simp only; omega
 have HCo := hide (show Is.code ⟨(k : Int), ⟨sm, sr, sx⟩, ⟨dm, dr, dx⟩, n⟩ = b + p * 64 + q by unfold Is.code; simp only [Int.toNat_natCast, hp6, hq6, hbk]; rw [if_pos (by omega)])
 have HXs := hide (show Is.xs ⟨(k : Int), ⟨sm, sr, sx⟩, ⟨dm, dr, dx⟩, n⟩ = (if sX = true then [sx] else []) ++ (if dX = true then [dx] else []) by
  unfold Is.xs
  simp only [hsX, hdX]
  have hk6 : (k : Int) ≤ 6 := by omega
  have hk15 : (k : Int) ≤ 15 := by omega
  cases sX <;> cases dX <;> simp [hk6, hk15])
 have hle : (k : Int) ≤ 6 := h1
 have hle15 : (k : Int) ≤ 15 := by omega
 clear h1
 clear q3 q4 q5 q6 q8 q9 q10 q11
 go_enter Tryz.func53, Tryz.ntmps53
 go_wp2_with fail
 refine (insOk_any ⟨(k : Int), ⟨sm, sr, sx⟩, ⟨dm, dr, dx⟩, n⟩ _).mono ?_
 rintro e w' ⟨rfl, hb⟩
 have Bz := box_step Bz (uh HZ) hb
 have a0 : w'.cell? ⟨w.heap.size, 0, none⟩ = some (.int .i64 (k : Int)) := uh HCL w' Bz 0 _ rfl
 have A0 : ∀ o, (w'.alloc o).cell? ⟨w.heap.size, 0, none⟩ = some (.int .i64 (k : Int)) := fun o => alloc_cell a0 o
 have a1 : w'.cell? ⟨w.heap.size, 1, none⟩ = some (.int .i64 sm) := uh HCL w' Bz 1 _ rfl
 have A1 : ∀ o, (w'.alloc o).cell? ⟨w.heap.size, 1, none⟩ = some (.int .i64 sm) := fun o => alloc_cell a1 o
 have a2 : w'.cell? ⟨w.heap.size, 2, none⟩ = some (.int .i64 sr) := uh HCL w' Bz 2 _ rfl
 have A2 : ∀ o, (w'.alloc o).cell? ⟨w.heap.size, 2, none⟩ = some (.int .i64 sr) := fun o => alloc_cell a2 o
 have a3 : w'.cell? ⟨w.heap.size, 3, none⟩ = some (.int .i64 sx) := uh HCL w' Bz 3 _ rfl
 have A3 : ∀ o, (w'.alloc o).cell? ⟨w.heap.size, 3, none⟩ = some (.int .i64 sx) := fun o => alloc_cell a3 o
 have a4 : w'.cell? ⟨w.heap.size, 4, none⟩ = some (.int .i64 dm) := uh HCL w' Bz 4 _ rfl
 have A4 : ∀ o, (w'.alloc o).cell? ⟨w.heap.size, 4, none⟩ = some (.int .i64 dm) := fun o => alloc_cell a4 o
 have a5 : w'.cell? ⟨w.heap.size, 5, none⟩ = some (.int .i64 dr) := uh HCL w' Bz 5 _ rfl
 have A5 : ∀ o, (w'.alloc o).cell? ⟨w.heap.size, 5, none⟩ = some (.int .i64 dr) := fun o => alloc_cell a5 o
 have a6 : w'.cell? ⟨w.heap.size, 6, none⟩ = some (.int .i64 dx) := uh HCL w' Bz 6 _ rfl
 have A6 : ∀ o, (w'.alloc o).cell? ⟨w.heap.size, 6, none⟩ = some (.int .i64 dx) := fun o => alloc_cell a6 o
 have a7 : w'.cell? ⟨w.heap.size, 7, none⟩ = some (.int .i64 n) := uh HCL w' Bz 7 _ rfl
 have A7 : ∀ o, (w'.alloc o).cell? ⟨w.heap.size, 7, none⟩ = some (.int .i64 n) := fun o => alloc_cell a7 o
 clear hb
 rw [hok]
 go_wp2_with fail
 refine (base_any k (by omega) _).mono ?_
 rintro e w' ⟨rfl, hb⟩
 have Bz := box_step Bz (uh HZ) hb
 have a0 : w'.cell? ⟨w.heap.size, 0, none⟩ = some (.int .i64 (k : Int)) := uh HCL w' Bz 0 _ rfl
 have A0 : ∀ o, (w'.alloc o).cell? ⟨w.heap.size, 0, none⟩ = some (.int .i64 (k : Int)) := fun o => alloc_cell a0 o
 have a1 : w'.cell? ⟨w.heap.size, 1, none⟩ = some (.int .i64 sm) := uh HCL w' Bz 1 _ rfl
 have A1 : ∀ o, (w'.alloc o).cell? ⟨w.heap.size, 1, none⟩ = some (.int .i64 sm) := fun o => alloc_cell a1 o
 have a2 : w'.cell? ⟨w.heap.size, 2, none⟩ = some (.int .i64 sr) := uh HCL w' Bz 2 _ rfl
 have A2 : ∀ o, (w'.alloc o).cell? ⟨w.heap.size, 2, none⟩ = some (.int .i64 sr) := fun o => alloc_cell a2 o
 have a3 : w'.cell? ⟨w.heap.size, 3, none⟩ = some (.int .i64 sx) := uh HCL w' Bz 3 _ rfl
 have A3 : ∀ o, (w'.alloc o).cell? ⟨w.heap.size, 3, none⟩ = some (.int .i64 sx) := fun o => alloc_cell a3 o
 have a4 : w'.cell? ⟨w.heap.size, 4, none⟩ = some (.int .i64 dm) := uh HCL w' Bz 4 _ rfl
 have A4 : ∀ o, (w'.alloc o).cell? ⟨w.heap.size, 4, none⟩ = some (.int .i64 dm) := fun o => alloc_cell a4 o
 have a5 : w'.cell? ⟨w.heap.size, 5, none⟩ = some (.int .i64 dr) := uh HCL w' Bz 5 _ rfl
 have A5 : ∀ o, (w'.alloc o).cell? ⟨w.heap.size, 5, none⟩ = some (.int .i64 dr) := fun o => alloc_cell a5 o
 have a6 : w'.cell? ⟨w.heap.size, 6, none⟩ = some (.int .i64 dx) := uh HCL w' Bz 6 _ rfl
 have A6 : ∀ o, (w'.alloc o).cell? ⟨w.heap.size, 6, none⟩ = some (.int .i64 dx) := fun o => alloc_cell a6 o
 have a7 : w'.cell? ⟨w.heap.size, 7, none⟩ = some (.int .i64 n) := uh HCL w' Bz 7 _ rfl
 have A7 : ∀ o, (w'.alloc o).cell? ⟨w.heap.size, 7, none⟩ = some (.int .i64 n) := fun o => alloc_cell a7 o
 clear hb
 rw [hbk]
 go_wp2
 go_region_with (go_at_call 98; refine (six_any ⟨_, _, _⟩ (by simp only; omega) _).mono ?_; rintro e w' ⟨rfl, hb⟩; (first | have Bz := box_step Bz (uh HZ) hb | have Bz := box_stepd Bz (uh HZ) hb); have a0 : w'.cell? ⟨w.heap.size, 0, none⟩ = some (.int .i64 (k : Int)) := uh HCL w' Bz 0 _ rfl; have A0 : ∀ o, (w'.alloc o).cell? ⟨w.heap.size, 0, none⟩ = some (.int .i64 (k : Int)) := fun o => alloc_cell a0 o; have a1 : w'.cell? ⟨w.heap.size, 1, none⟩ = some (.int .i64 sm) := uh HCL w' Bz 1 _ rfl; have A1 : ∀ o, (w'.alloc o).cell? ⟨w.heap.size, 1, none⟩ = some (.int .i64 sm) := fun o => alloc_cell a1 o; have a2 : w'.cell? ⟨w.heap.size, 2, none⟩ = some (.int .i64 sr) := uh HCL w' Bz 2 _ rfl; have A2 : ∀ o, (w'.alloc o).cell? ⟨w.heap.size, 2, none⟩ = some (.int .i64 sr) := fun o => alloc_cell a2 o; have a3 : w'.cell? ⟨w.heap.size, 3, none⟩ = some (.int .i64 sx) := uh HCL w' Bz 3 _ rfl; have A3 : ∀ o, (w'.alloc o).cell? ⟨w.heap.size, 3, none⟩ = some (.int .i64 sx) := fun o => alloc_cell a3 o; have a4 : w'.cell? ⟨w.heap.size, 4, none⟩ = some (.int .i64 dm) := uh HCL w' Bz 4 _ rfl; have A4 : ∀ o, (w'.alloc o).cell? ⟨w.heap.size, 4, none⟩ = some (.int .i64 dm) := fun o => alloc_cell a4 o; have a5 : w'.cell? ⟨w.heap.size, 5, none⟩ = some (.int .i64 dr) := uh HCL w' Bz 5 _ rfl; have A5 : ∀ o, (w'.alloc o).cell? ⟨w.heap.size, 5, none⟩ = some (.int .i64 dr) := fun o => alloc_cell a5 o; have a6 : w'.cell? ⟨w.heap.size, 6, none⟩ = some (.int .i64 dx) := uh HCL w' Bz 6 _ rfl; have A6 : ∀ o, (w'.alloc o).cell? ⟨w.heap.size, 6, none⟩ = some (.int .i64 dx) := fun o => alloc_cell a6 o; have a7 : w'.cell? ⟨w.heap.size, 7, none⟩ = some (.int .i64 n) := uh HCL w' Bz 7 _ rfl; have A7 : ∀ o, (w'.alloc o).cell? ⟨w.heap.size, 7, none⟩ = some (.int .i64 n) := fun o => alloc_cell a7 o; clear hb)
 all_goals
  have hsz := Bz.size
  rw [uh HZ] at hsz
  have OO := hide ((own_one w' (b + p * 64 + q)).base (show w.heap.size + 1 ≤ w'.heap.size by omega))
  have HN : (Value.slice (some ⟨w'.heap.size, 0, none⟩) 1 1) ≠ .slice none 0 0 := by simp
  have B0 := box_step Bz (uh HZ) ((Below.refl w'.heap.size w').alloc (Nat.le_refl _) (Obj.cells #[.int .i64 (b + p * 64 + q)] 3))
  go_wp2_with fail
  refine (hasX_any ⟨sm, sr, sx⟩ _).mono ?_
  rintro e w5 ⟨rfl, hb⟩
  have Bz := box_step B0 (uh HZ) hb
  have a0 : w5.cell? ⟨w.heap.size, 0, none⟩ = some (.int .i64 (k : Int)) := uh HCL w5 Bz 0 _ rfl
  have A0 : ∀ o, (w5.alloc o).cell? ⟨w.heap.size, 0, none⟩ = some (.int .i64 (k : Int)) := fun o => alloc_cell a0 o
  have a1 : w5.cell? ⟨w.heap.size, 1, none⟩ = some (.int .i64 sm) := uh HCL w5 Bz 1 _ rfl
  have A1 : ∀ o, (w5.alloc o).cell? ⟨w.heap.size, 1, none⟩ = some (.int .i64 sm) := fun o => alloc_cell a1 o
  have a2 : w5.cell? ⟨w.heap.size, 2, none⟩ = some (.int .i64 sr) := uh HCL w5 Bz 2 _ rfl
  have A2 : ∀ o, (w5.alloc o).cell? ⟨w.heap.size, 2, none⟩ = some (.int .i64 sr) := fun o => alloc_cell a2 o
  have a3 : w5.cell? ⟨w.heap.size, 3, none⟩ = some (.int .i64 sx) := uh HCL w5 Bz 3 _ rfl
  have A3 : ∀ o, (w5.alloc o).cell? ⟨w.heap.size, 3, none⟩ = some (.int .i64 sx) := fun o => alloc_cell a3 o
  have a4 : w5.cell? ⟨w.heap.size, 4, none⟩ = some (.int .i64 dm) := uh HCL w5 Bz 4 _ rfl
  have A4 : ∀ o, (w5.alloc o).cell? ⟨w.heap.size, 4, none⟩ = some (.int .i64 dm) := fun o => alloc_cell a4 o
  have a5 : w5.cell? ⟨w.heap.size, 5, none⟩ = some (.int .i64 dr) := uh HCL w5 Bz 5 _ rfl
  have A5 : ∀ o, (w5.alloc o).cell? ⟨w.heap.size, 5, none⟩ = some (.int .i64 dr) := fun o => alloc_cell a5 o
  have a6 : w5.cell? ⟨w.heap.size, 6, none⟩ = some (.int .i64 dx) := uh HCL w5 Bz 6 _ rfl
  have A6 : ∀ o, (w5.alloc o).cell? ⟨w.heap.size, 6, none⟩ = some (.int .i64 dx) := fun o => alloc_cell a6 o
  have a7 : w5.cell? ⟨w.heap.size, 7, none⟩ = some (.int .i64 n) := uh HCL w5 Bz 7 _ rfl
  have A7 : ∀ o, (w5.alloc o).cell? ⟨w.heap.size, 7, none⟩ = some (.int .i64 n) := fun o => alloc_cell a7 o
  have OO := hide ((uh OO).later hb)
  clear hb B0
  rw [hsX]
  cases sX
  ·
   go_wp2_with fail
   have B0 := Bz
   refine (hasX_any ⟨dm, dr, dx⟩ _).mono ?_
   rintro e w7 ⟨rfl, hb⟩
   have Bz := box_step B0 (uh HZ) hb
   have a0 : w7.cell? ⟨w.heap.size, 0, none⟩ = some (.int .i64 (k : Int)) := uh HCL w7 Bz 0 _ rfl
   have A0 : ∀ o, (w7.alloc o).cell? ⟨w.heap.size, 0, none⟩ = some (.int .i64 (k : Int)) := fun o => alloc_cell a0 o
   have a1 : w7.cell? ⟨w.heap.size, 1, none⟩ = some (.int .i64 sm) := uh HCL w7 Bz 1 _ rfl
   have A1 : ∀ o, (w7.alloc o).cell? ⟨w.heap.size, 1, none⟩ = some (.int .i64 sm) := fun o => alloc_cell a1 o
   have a2 : w7.cell? ⟨w.heap.size, 2, none⟩ = some (.int .i64 sr) := uh HCL w7 Bz 2 _ rfl
   have A2 : ∀ o, (w7.alloc o).cell? ⟨w.heap.size, 2, none⟩ = some (.int .i64 sr) := fun o => alloc_cell a2 o
   have a3 : w7.cell? ⟨w.heap.size, 3, none⟩ = some (.int .i64 sx) := uh HCL w7 Bz 3 _ rfl
   have A3 : ∀ o, (w7.alloc o).cell? ⟨w.heap.size, 3, none⟩ = some (.int .i64 sx) := fun o => alloc_cell a3 o
   have a4 : w7.cell? ⟨w.heap.size, 4, none⟩ = some (.int .i64 dm) := uh HCL w7 Bz 4 _ rfl
   have A4 : ∀ o, (w7.alloc o).cell? ⟨w.heap.size, 4, none⟩ = some (.int .i64 dm) := fun o => alloc_cell a4 o
   have a5 : w7.cell? ⟨w.heap.size, 5, none⟩ = some (.int .i64 dr) := uh HCL w7 Bz 5 _ rfl
   have A5 : ∀ o, (w7.alloc o).cell? ⟨w.heap.size, 5, none⟩ = some (.int .i64 dr) := fun o => alloc_cell a5 o
   have a6 : w7.cell? ⟨w.heap.size, 6, none⟩ = some (.int .i64 dx) := uh HCL w7 Bz 6 _ rfl
   have A6 : ∀ o, (w7.alloc o).cell? ⟨w.heap.size, 6, none⟩ = some (.int .i64 dx) := fun o => alloc_cell a6 o
   have a7 : w7.cell? ⟨w.heap.size, 7, none⟩ = some (.int .i64 n) := uh HCL w7 Bz 7 _ rfl
   have A7 : ∀ o, (w7.alloc o).cell? ⟨w.heap.size, 7, none⟩ = some (.int .i64 n) := fun o => alloc_cell a7 o
   have OO := hide ((uh OO).later hb)
   clear hb B0
   rw [hdX]
   cases dX
   ·
    go_wp2
    go_ret
    exact ⟨(.slice (some ⟨w'.heap.size, 0, none⟩) 1 1), rfl, HN, by rw [uh HCo, uh HXs]; exact (uh OO).base (by omega), uh HB _ Bz⟩
   ·
    have K1 := hide (cell_one_new w7 (Value.int .i64 (dx)) 3)
    have szc := Bz.size
    rw [uh HZ] at szc
    go_wp2_with (at_builtin; go_must (refine wpList_append_own _ rfl (.tmp 94) (.tmp 98) 24 rfl (w.heap.size + 1) 3 i0 (.int .i64 0) 1 8 Tryz.underlying24 hi hz0 hz1 hz2 rfl (by decide) (.slice (some ⟨w'.heap.size, 0, none⟩) 1 1) 1 (cellsN [b + p * 64 + q]) rfl ((uh OO).alloc _) ⟨w7.heap.size, 0, none⟩ 1 1 (cellsN [dx]) rfl rfl (uh K1) (cellsN_one _) (by unfold maxLen; omega) (by omega) (by simp; omega) ?_; intro v8 w8 hown hgrow hnil; have Bz := box_app Bz (uh HZ) _ hgrow (uh OO) (Nat.le_refl _); have a0 : w8.cell? ⟨w.heap.size, 0, none⟩ = some (.int .i64 (k : Int)) := uh HCL w8 Bz 0 _ rfl; have A0 : ∀ o, (w8.alloc o).cell? ⟨w.heap.size, 0, none⟩ = some (.int .i64 (k : Int)) := fun o => alloc_cell a0 o; have a1 : w8.cell? ⟨w.heap.size, 1, none⟩ = some (.int .i64 sm) := uh HCL w8 Bz 1 _ rfl; have A1 : ∀ o, (w8.alloc o).cell? ⟨w.heap.size, 1, none⟩ = some (.int .i64 sm) := fun o => alloc_cell a1 o; have a2 : w8.cell? ⟨w.heap.size, 2, none⟩ = some (.int .i64 sr) := uh HCL w8 Bz 2 _ rfl; have A2 : ∀ o, (w8.alloc o).cell? ⟨w.heap.size, 2, none⟩ = some (.int .i64 sr) := fun o => alloc_cell a2 o; have a3 : w8.cell? ⟨w.heap.size, 3, none⟩ = some (.int .i64 sx) := uh HCL w8 Bz 3 _ rfl; have A3 : ∀ o, (w8.alloc o).cell? ⟨w.heap.size, 3, none⟩ = some (.int .i64 sx) := fun o => alloc_cell a3 o; have a4 : w8.cell? ⟨w.heap.size, 4, none⟩ = some (.int .i64 dm) := uh HCL w8 Bz 4 _ rfl; have A4 : ∀ o, (w8.alloc o).cell? ⟨w.heap.size, 4, none⟩ = some (.int .i64 dm) := fun o => alloc_cell a4 o; have a5 : w8.cell? ⟨w.heap.size, 5, none⟩ = some (.int .i64 dr) := uh HCL w8 Bz 5 _ rfl; have A5 : ∀ o, (w8.alloc o).cell? ⟨w.heap.size, 5, none⟩ = some (.int .i64 dr) := fun o => alloc_cell a5 o; have a6 : w8.cell? ⟨w.heap.size, 6, none⟩ = some (.int .i64 dx) := uh HCL w8 Bz 6 _ rfl; have A6 : ∀ o, (w8.alloc o).cell? ⟨w.heap.size, 6, none⟩ = some (.int .i64 dx) := fun o => alloc_cell a6 o; have a7 : w8.cell? ⟨w.heap.size, 7, none⟩ = some (.int .i64 n) := uh HCL w8 Bz 7 _ rfl; have A7 : ∀ o, (w8.alloc o).cell? ⟨w.heap.size, 7, none⟩ = some (.int .i64 n) := fun o => alloc_cell a7 o))
    have HN : v8 ≠ .slice none 0 0 := fun e => by have := hnil.1 e; omega
    have OO := hide (show OwnN w8 (w.heap.size + 1) v8 [b + p * 64 + q, dx] from hown)
    clear hown hgrow hnil K1
    go_wp2
    go_ret
    exact ⟨v8, rfl, HN, by rw [uh HCo, uh HXs]; exact (uh OO).base (by omega), uh HB _ Bz⟩
  ·
   have K1 := hide (cell_one_new w5 (Value.int .i64 (sx)) 3)
   have szc := Bz.size
   rw [uh HZ] at szc
   go_wp2_with (at_builtin; go_must (refine wpList_append_own _ rfl (.tmp 80) (.tmp 84) 24 rfl (w.heap.size + 1) 3 i0 (.int .i64 0) 1 8 Tryz.underlying24 hi hz0 hz1 hz2 rfl (by decide) (.slice (some ⟨w'.heap.size, 0, none⟩) 1 1) 1 (cellsN [b + p * 64 + q]) rfl ((uh OO).alloc _) ⟨w5.heap.size, 0, none⟩ 1 1 (cellsN [sx]) rfl rfl (uh K1) (cellsN_one _) (by unfold maxLen; omega) (by omega) (by simp; omega) ?_; intro v6 w6 hown hgrow hnil; have Bz := box_app Bz (uh HZ) _ hgrow (uh OO) (Nat.le_refl _); have a0 : w6.cell? ⟨w.heap.size, 0, none⟩ = some (.int .i64 (k : Int)) := uh HCL w6 Bz 0 _ rfl; have A0 : ∀ o, (w6.alloc o).cell? ⟨w.heap.size, 0, none⟩ = some (.int .i64 (k : Int)) := fun o => alloc_cell a0 o; have a1 : w6.cell? ⟨w.heap.size, 1, none⟩ = some (.int .i64 sm) := uh HCL w6 Bz 1 _ rfl; have A1 : ∀ o, (w6.alloc o).cell? ⟨w.heap.size, 1, none⟩ = some (.int .i64 sm) := fun o => alloc_cell a1 o; have a2 : w6.cell? ⟨w.heap.size, 2, none⟩ = some (.int .i64 sr) := uh HCL w6 Bz 2 _ rfl; have A2 : ∀ o, (w6.alloc o).cell? ⟨w.heap.size, 2, none⟩ = some (.int .i64 sr) := fun o => alloc_cell a2 o; have a3 : w6.cell? ⟨w.heap.size, 3, none⟩ = some (.int .i64 sx) := uh HCL w6 Bz 3 _ rfl; have A3 : ∀ o, (w6.alloc o).cell? ⟨w.heap.size, 3, none⟩ = some (.int .i64 sx) := fun o => alloc_cell a3 o; have a4 : w6.cell? ⟨w.heap.size, 4, none⟩ = some (.int .i64 dm) := uh HCL w6 Bz 4 _ rfl; have A4 : ∀ o, (w6.alloc o).cell? ⟨w.heap.size, 4, none⟩ = some (.int .i64 dm) := fun o => alloc_cell a4 o; have a5 : w6.cell? ⟨w.heap.size, 5, none⟩ = some (.int .i64 dr) := uh HCL w6 Bz 5 _ rfl; have A5 : ∀ o, (w6.alloc o).cell? ⟨w.heap.size, 5, none⟩ = some (.int .i64 dr) := fun o => alloc_cell a5 o; have a6 : w6.cell? ⟨w.heap.size, 6, none⟩ = some (.int .i64 dx) := uh HCL w6 Bz 6 _ rfl; have A6 : ∀ o, (w6.alloc o).cell? ⟨w.heap.size, 6, none⟩ = some (.int .i64 dx) := fun o => alloc_cell a6 o; have a7 : w6.cell? ⟨w.heap.size, 7, none⟩ = some (.int .i64 n) := uh HCL w6 Bz 7 _ rfl; have A7 : ∀ o, (w6.alloc o).cell? ⟨w.heap.size, 7, none⟩ = some (.int .i64 n) := fun o => alloc_cell a7 o))
   have HN : v6 ≠ .slice none 0 0 := fun e => by have := hnil.1 e; omega
   have OO := hide (show OwnN w6 (w.heap.size + 1) v6 [b + p * 64 + q, sx] from hown)
   clear hown hgrow hnil K1
   have B0 := Bz
   refine (hasX_any ⟨dm, dr, dx⟩ _).mono ?_
   rintro e w7 ⟨rfl, hb⟩
   have Bz := box_step B0 (uh HZ) hb
   have a0 : w7.cell? ⟨w.heap.size, 0, none⟩ = some (.int .i64 (k : Int)) := uh HCL w7 Bz 0 _ rfl
   have A0 : ∀ o, (w7.alloc o).cell? ⟨w.heap.size, 0, none⟩ = some (.int .i64 (k : Int)) := fun o => alloc_cell a0 o
   have a1 : w7.cell? ⟨w.heap.size, 1, none⟩ = some (.int .i64 sm) := uh HCL w7 Bz 1 _ rfl
   have A1 : ∀ o, (w7.alloc o).cell? ⟨w.heap.size, 1, none⟩ = some (.int .i64 sm) := fun o => alloc_cell a1 o
   have a2 : w7.cell? ⟨w.heap.size, 2, none⟩ = some (.int .i64 sr) := uh HCL w7 Bz 2 _ rfl
   have A2 : ∀ o, (w7.alloc o).cell? ⟨w.heap.size, 2, none⟩ = some (.int .i64 sr) := fun o => alloc_cell a2 o
   have a3 : w7.cell? ⟨w.heap.size, 3, none⟩ = some (.int .i64 sx) := uh HCL w7 Bz 3 _ rfl
   have A3 : ∀ o, (w7.alloc o).cell? ⟨w.heap.size, 3, none⟩ = some (.int .i64 sx) := fun o => alloc_cell a3 o
   have a4 : w7.cell? ⟨w.heap.size, 4, none⟩ = some (.int .i64 dm) := uh HCL w7 Bz 4 _ rfl
   have A4 : ∀ o, (w7.alloc o).cell? ⟨w.heap.size, 4, none⟩ = some (.int .i64 dm) := fun o => alloc_cell a4 o
   have a5 : w7.cell? ⟨w.heap.size, 5, none⟩ = some (.int .i64 dr) := uh HCL w7 Bz 5 _ rfl
   have A5 : ∀ o, (w7.alloc o).cell? ⟨w.heap.size, 5, none⟩ = some (.int .i64 dr) := fun o => alloc_cell a5 o
   have a6 : w7.cell? ⟨w.heap.size, 6, none⟩ = some (.int .i64 dx) := uh HCL w7 Bz 6 _ rfl
   have A6 : ∀ o, (w7.alloc o).cell? ⟨w.heap.size, 6, none⟩ = some (.int .i64 dx) := fun o => alloc_cell a6 o
   have a7 : w7.cell? ⟨w.heap.size, 7, none⟩ = some (.int .i64 n) := uh HCL w7 Bz 7 _ rfl
   have A7 : ∀ o, (w7.alloc o).cell? ⟨w.heap.size, 7, none⟩ = some (.int .i64 n) := fun o => alloc_cell a7 o
   have OO := hide ((uh OO).later hb)
   clear hb B0
   rw [hdX]
   cases dX
   ·
    go_wp2
    go_ret
    exact ⟨v6, rfl, HN, by rw [uh HCo, uh HXs]; exact (uh OO).base (by omega), uh HB _ Bz⟩
   ·
    have K1 := hide (cell_one_new w7 (Value.int .i64 (dx)) 3)
    have szc := Bz.size
    rw [uh HZ] at szc
    go_wp2_with (at_builtin; go_must (refine wpList_append_own _ rfl (.tmp 94) (.tmp 98) 24 rfl (w.heap.size + 1) 3 i0 (.int .i64 0) 1 8 Tryz.underlying24 hi hz0 hz1 hz2 rfl (by decide) v6 2 (cellsN [b + p * 64 + q, sx]) rfl ((uh OO).alloc _) ⟨w7.heap.size, 0, none⟩ 1 1 (cellsN [dx]) rfl rfl (uh K1) (cellsN_one _) (by unfold maxLen; omega) (by omega) (by simp; omega) ?_; intro v8 w8 hown hgrow hnil; have Bz := box_app Bz (uh HZ) _ hgrow (uh OO) (Nat.le_refl _); have a0 : w8.cell? ⟨w.heap.size, 0, none⟩ = some (.int .i64 (k : Int)) := uh HCL w8 Bz 0 _ rfl; have A0 : ∀ o, (w8.alloc o).cell? ⟨w.heap.size, 0, none⟩ = some (.int .i64 (k : Int)) := fun o => alloc_cell a0 o; have a1 : w8.cell? ⟨w.heap.size, 1, none⟩ = some (.int .i64 sm) := uh HCL w8 Bz 1 _ rfl; have A1 : ∀ o, (w8.alloc o).cell? ⟨w.heap.size, 1, none⟩ = some (.int .i64 sm) := fun o => alloc_cell a1 o; have a2 : w8.cell? ⟨w.heap.size, 2, none⟩ = some (.int .i64 sr) := uh HCL w8 Bz 2 _ rfl; have A2 : ∀ o, (w8.alloc o).cell? ⟨w.heap.size, 2, none⟩ = some (.int .i64 sr) := fun o => alloc_cell a2 o; have a3 : w8.cell? ⟨w.heap.size, 3, none⟩ = some (.int .i64 sx) := uh HCL w8 Bz 3 _ rfl; have A3 : ∀ o, (w8.alloc o).cell? ⟨w.heap.size, 3, none⟩ = some (.int .i64 sx) := fun o => alloc_cell a3 o; have a4 : w8.cell? ⟨w.heap.size, 4, none⟩ = some (.int .i64 dm) := uh HCL w8 Bz 4 _ rfl; have A4 : ∀ o, (w8.alloc o).cell? ⟨w.heap.size, 4, none⟩ = some (.int .i64 dm) := fun o => alloc_cell a4 o; have a5 : w8.cell? ⟨w.heap.size, 5, none⟩ = some (.int .i64 dr) := uh HCL w8 Bz 5 _ rfl; have A5 : ∀ o, (w8.alloc o).cell? ⟨w.heap.size, 5, none⟩ = some (.int .i64 dr) := fun o => alloc_cell a5 o; have a6 : w8.cell? ⟨w.heap.size, 6, none⟩ = some (.int .i64 dx) := uh HCL w8 Bz 6 _ rfl; have A6 : ∀ o, (w8.alloc o).cell? ⟨w.heap.size, 6, none⟩ = some (.int .i64 dx) := fun o => alloc_cell a6 o; have a7 : w8.cell? ⟨w.heap.size, 7, none⟩ = some (.int .i64 n) := uh HCL w8 Bz 7 _ rfl; have A7 : ∀ o, (w8.alloc o).cell? ⟨w.heap.size, 7, none⟩ = some (.int .i64 n) := fun o => alloc_cell a7 o))
    have HN : v8 ≠ .slice none 0 0 := fun e => by have := hnil.1 e; omega
    have OO := hide (show OwnN w8 (w.heap.size + 1) v8 [b + p * 64 + q, sx, dx] from hown)
    clear hown hgrow hnil K1
    go_wp2
    go_ret
    exact ⟨v8, rfl, HN, by rw [uh HCo, uh HXs]; exact (uh OO).base (by omega), uh HB _ Bz⟩
end Go.Proofs.YtjpbjbnialehbaaGreatDoor
