/- Contracts over this seat's translation, laid together; conditions stand as hypotheses of each. -/
import Derived.Test.YtboedaofbchdkaaGreatDoorRsR
namespace Go.Proofs.YtboedaofbchdkaaGreatDoor
open Go.ChangeShapes Go.WideShapes Go.ChangeAt Go.RowKit
set_option maxHeartbeats 16000000
set_option linter.unusedVariables false
set_option linter.unusedSimpArgs false
theorem decS_out (a : Option Addr) (len cap : Nat) (ns : List Int) (i : Int) (w : World) (hl : ns.length = len) (hm : len ≤ 1099511627776) (hr : RdN w a ns) (h : decIn ns i = false) :
  Calls Tryz.prog 23 #[.slice a len cap, .int .i64 i] w fun e w' => e = .returned (decV ns i) ∧ Below w.heap.size w w' := by
 have Z := hide (rz_new w)
 have HNO := hide (decOk_out h)
 cases h1 : inB i 0 ((len : Int) - 1)
 ·
  clear h hr
  go_enter Tryz.func23, Tryz.ntmps23
  go_wp2_with (go_at_call 13; refine (in_any _ _ _ _).mono ?_; rintro e w' ⟨rfl, hw'⟩; rw [hw']; clear hw' w')
  refine bodyPost_ret (results_row3 (P := Tryz.prog) rfl _ _ w.heap.size 48 (cs8 [0, 0, 0, 0, 0, 0, 0, 0]) (0, 0) _ rfl (row8_heap (uh Z).row) Tryz.underlying48 rfl (by kernel_rfl)) rfl ?_
  exact ⟨congrArg Ending.returned (decV_no (uh HNO)), (uh Z).bel⟩
 ·
  have hi : 0 ≤ i ∧ i ≤ (len : Int) - 1 := by unfold inB at h1; simpa using h1
  obtain ⟨p, rfl⟩ := Int.eq_ofNat_of_zero_le hi.1
  have h2 : inB (nAt ns p) 0 65535 = false := by
   unfold decIn at h
   rw [hl, h1] at h
   simpa using h
  clear h
  rcases hr with h0 | ⟨b, off, rfl, hb, hc⟩
  · rw [h0] at hl; simp at hl; omega
  have hcx := alloc_cell (hc p (by omega)) (Obj.cells (cs8 [0, 0, 0, 0, 0, 0, 0, 0]) 48)
  have hcx' : ∀ o, (w.alloc o).cell? ⟨b, off + p, none⟩ = some (.int .i64 (nAt ns p)) := fun o => alloc_cell (hc p (by omega)) o
  clear hcx hc
  go_enter Tryz.func23, Tryz.ntmps23
  go_wp2_with (go_at_call 13; refine (in_any _ _ _ _).mono ?_; rintro e w' ⟨rfl, hw'⟩; rw [hw']; clear hw' w')
  refine bodyPost_ret (results_row3 (P := Tryz.prog) rfl _ _ w.heap.size 48 (cs8 [0, 0, 0, 0, 0, 0, 0, 0]) (0, 0) _ rfl (row8_heap (uh Z).row) Tryz.underlying48 rfl (by kernel_rfl)) rfl ?_
  exact ⟨congrArg Ending.returned (decV_no (uh HNO)), (uh Z).bel⟩
set_option maxRecDepth 100000 in
theorem decS_FF (b off len cap : Nat) (ns : List Int) (p q : Nat) (op sm sr dm dr x : Int) (w : World) (hl : ns.length = len) (hm : len ≤ 1099511627776) (hb : b < w.heap.size) (hc : ∀ i, i < ns.length → w.cell? ⟨b, off + i, none⟩ = some (.int .i64 (nAt ns i)))
  (hp : p < len) (hq : nAt ns p = (q : Int)) (hq2 : q < 65536) (hD : dOp (q : Int) = ⟨op, ⟨sm, sr, 0⟩, ⟨dm, dr, 0⟩, x⟩) (ho : 0 ≤ op ∧ op ≤ 23) (h6 : op ≤ 6) (hsX : Od.hasX ⟨sm, sr, 0⟩ = false) (h15 : op ≤ 15) (hdX : Od.hasX ⟨dm, dr, 0⟩ = false) :
  Calls Tryz.prog 23 #[.slice (some ⟨b, off, none⟩) len cap, .int .i64 (p : Int)] w fun e w' => e = .returned (decV ns (p : Int)) ∧ Below w.heap.size w w' := by
 have Z0 := hide (rz_new w)
 have i1 : inB (p : Int) 0 ((len : Int) - 1) = true := inB_tQ _ _ _ (by omega)
 have i2 : inB (q : Int) 0 65535 = true := inB_tQ _ _ _ (by omega)
 have HOI := hide (decOk_in (ns := ns) (i := (p : Int)) (by unfold decIn; rw [hl, i1, Int.toNat_natCast, hq, i2]; rfl))
 have HNE := hide (show (dOp (nAt ns (p : Int).toNat)).need = 0 by rw [Int.toNat_natCast, hq, hD]; unfold Is.need; rw [hsX, hdX]; rfl)
 have HXE := hide (show decX ns (p : Int) = ⟨op, ⟨sm, sr, 0⟩, ⟨dm, dr, 0⟩, x⟩ by unfold decX; rw [Int.toNat_natCast, hq, hD]; unfold Is.fill; simp only [hsX, hdX]; rfl)
 have CL := hide (fun (w' : World) (hbel : Below w.heap.size w w') i (hi : i < len) => (hbel.cell (p := ⟨b, off + i, none⟩) hb).trans (hc i (by omega)))
 have hc0 : ∀ o, (w.alloc o).cell? ⟨b, off + p, none⟩ = some (.int .i64 (q : Int)) := fun o => by rw [← hq]; exact alloc_cell (hc p (by omega)) o
 have L4 := hide (fun w => l4Op_any q hq2 w)
 rw [hD] at L4
 have FS := hide (fun w => hasX_any ⟨sm, sr, 0⟩ w)
 have FD := hide (fun w => hasX_any ⟨dm, dr, 0⟩ w)
 rw [hsX] at FS
 rw [hdX] at FD
 unfold Is.v at L4
 unfold Od.v at FS FD
 simp only at L4 FS FD
 clear hc hD hsX hdX hq
 go_enter Tryz.func23, Tryz.ntmps23
 go_wp2_with (go_at_call 13; refine (in_any _ _ _ _).mono ?_; rintro e w' ⟨rfl, hw'⟩; rw [hw']; clear hw' w')
 refine (uh L4 _).mono ?_
 rintro e w1 ⟨rfl, hb1⟩
 have Z1 := hide ((uh Z0).later hb1)
 have D1 := hide (dz_new (uh Z1) [op, sm, sr, 0, dm, dr, 0, x])
 clear hb1 Z0 L4
 go_wp2_with fail
 refine (uh FS _).mono ?_
 rintro e w3 ⟨rfl, hb3⟩
 have D3 := hide ((uh D1).later hb3)
 clear hb3 D1
 have dd := uh D3
 have x0 : w3.cell? ⟨w1.heap.size, 0, none⟩ = some (.int .i64 (op)) := dd.row.cell (i := 0) (by omega)
 have g0 := dd.row.frozen 0
 have x1 : w3.cell? ⟨w1.heap.size, 1, none⟩ = some (.int .i64 (sm)) := dd.row.cell (i := 1) (by omega)
 have g1 := dd.row.frozen 1
 have x2 : w3.cell? ⟨w1.heap.size, 2, none⟩ = some (.int .i64 (sr)) := dd.row.cell (i := 2) (by omega)
 have g2 := dd.row.frozen 2
 have x3 : w3.cell? ⟨w1.heap.size, 3, none⟩ = some (.int .i64 (0)) := dd.row.cell (i := 3) (by omega)
 have g3 := dd.row.frozen 3
 have x4 : w3.cell? ⟨w1.heap.size, 4, none⟩ = some (.int .i64 (dm)) := dd.row.cell (i := 4) (by omega)
 have g4 := dd.row.frozen 4
 have x5 : w3.cell? ⟨w1.heap.size, 5, none⟩ = some (.int .i64 (dr)) := dd.row.cell (i := 5) (by omega)
 have g5 := dd.row.frozen 5
 have x6 : w3.cell? ⟨w1.heap.size, 6, none⟩ = some (.int .i64 (0)) := dd.row.cell (i := 6) (by omega)
 have g6 := dd.row.frozen 6
 have x7 : w3.cell? ⟨w1.heap.size, 7, none⟩ = some (.int .i64 (x)) := dd.row.cell (i := 7) (by omega)
 have g7 := dd.row.frozen 7
 clear dd
 go_wp2_with fail
 refine (uh FD _).mono ?_
 rintro e w5 ⟨rfl, hb5⟩
 have D5 := hide ((uh D3).later hb5)
 clear hb5 D3
 clear x0 g0 x1 g1 x2 g2 x3 g3 x4 g4 x5 g5 x6 g6 x7 g7
 have dd := uh D5
 have x0 : w5.cell? ⟨w1.heap.size, 0, none⟩ = some (.int .i64 (op)) := dd.row.cell (i := 0) (by omega)
 have g0 := dd.row.frozen 0
 have x1 : w5.cell? ⟨w1.heap.size, 1, none⟩ = some (.int .i64 (sm)) := dd.row.cell (i := 1) (by omega)
 have g1 := dd.row.frozen 1
 have x2 : w5.cell? ⟨w1.heap.size, 2, none⟩ = some (.int .i64 (sr)) := dd.row.cell (i := 2) (by omega)
 have g2 := dd.row.frozen 2
 have x3 : w5.cell? ⟨w1.heap.size, 3, none⟩ = some (.int .i64 (0)) := dd.row.cell (i := 3) (by omega)
 have g3 := dd.row.frozen 3
 have x4 : w5.cell? ⟨w1.heap.size, 4, none⟩ = some (.int .i64 (dm)) := dd.row.cell (i := 4) (by omega)
 have g4 := dd.row.frozen 4
 have x5 : w5.cell? ⟨w1.heap.size, 5, none⟩ = some (.int .i64 (dr)) := dd.row.cell (i := 5) (by omega)
 have g5 := dd.row.frozen 5
 have x6 : w5.cell? ⟨w1.heap.size, 6, none⟩ = some (.int .i64 (0)) := dd.row.cell (i := 6) (by omega)
 have g6 := dd.row.frozen 6
 have x7 : w5.cell? ⟨w1.heap.size, 7, none⟩ = some (.int .i64 (x)) := dd.row.cell (i := 7) (by omega)
 have g7 := dd.row.frozen 7
 clear dd
 go_wp2_with fail
 refine (insOk_any ⟨op, ⟨sm, sr, 0⟩, ⟨dm, dr, 0⟩, x⟩ _).mono ?_
 rintro e w9 ⟨rfl, hb9⟩
 have D9 := hide ((uh D5).later hb9)
 have HDX := hide (show decX ns (p : Int) = ⟨op, ⟨sm, sr, 0⟩, ⟨dm, dr, 0⟩, x⟩ by rw [uh HXE])
 have HOKE := hide (show decOk ns (p : Int) = Is.ok ⟨op, ⟨sm, sr, 0⟩, ⟨dm, dr, 0⟩, x⟩ by rw [uh HOI, uh HNE, uh HDX, decide_eq_true (by omega), Bool.true_and])
 clear hb9
 cases hok : Is.ok ⟨op, ⟨sm, sr, 0⟩, ⟨dm, dr, 0⟩, x⟩
 ·
  rw [hok] at HOKE
  have zz := (uh D9).rz
  have c0 : w9.cell? ⟨w.heap.size, 0, none⟩ = some (.int .i64 0) := zz.row.cell (i := 0) (by omega)
  have f0 := zz.row.frozen 0
  have c1 : w9.cell? ⟨w.heap.size, 1, none⟩ = some (.int .i64 0) := zz.row.cell (i := 1) (by omega)
  have f1 := zz.row.frozen 1
  have c2 : w9.cell? ⟨w.heap.size, 2, none⟩ = some (.int .i64 0) := zz.row.cell (i := 2) (by omega)
  have f2 := zz.row.frozen 2
  have c3 : w9.cell? ⟨w.heap.size, 3, none⟩ = some (.int .i64 0) := zz.row.cell (i := 3) (by omega)
  have f3 := zz.row.frozen 3
  have c4 : w9.cell? ⟨w.heap.size, 4, none⟩ = some (.int .i64 0) := zz.row.cell (i := 4) (by omega)
  have f4 := zz.row.frozen 4
  have c5 : w9.cell? ⟨w.heap.size, 5, none⟩ = some (.int .i64 0) := zz.row.cell (i := 5) (by omega)
  have f5 := zz.row.frozen 5
  have c6 : w9.cell? ⟨w.heap.size, 6, none⟩ = some (.int .i64 0) := zz.row.cell (i := 6) (by omega)
  have f6 := zz.row.frozen 6
  have c7 : w9.cell? ⟨w.heap.size, 7, none⟩ = some (.int .i64 0) := zz.row.cell (i := 7) (by omega)
  have f7 := zz.row.frozen 7
  clear zz
  go_wp2
  refine bodyPost_ret (results_row3 (P := Tryz.prog) rfl _ _ w.heap.size 48 (cs8 [0, 0, 0, 0, 0, 0, 0, 0]) (0, 0) _ rfl (row8_heap (((uh D9).rz).put 0 0 0 0 0 0 0 0).row) Tryz.underlying48 rfl (by kernel_rfl)) rfl ?_
  exact ⟨congrArg Ending.returned (decV_no (uh HOKE)), (((uh D9).rz).put 0 0 0 0 0 0 0 0).bel⟩
 ·
  rw [hok] at HOKE
  have zz := (uh D9).rz
  have c0 : w9.cell? ⟨w.heap.size, 0, none⟩ = some (.int .i64 0) := zz.row.cell (i := 0) (by omega)
  have f0 := zz.row.frozen 0
  have c1 : w9.cell? ⟨w.heap.size, 1, none⟩ = some (.int .i64 0) := zz.row.cell (i := 1) (by omega)
  have f1 := zz.row.frozen 1
  have c2 : w9.cell? ⟨w.heap.size, 2, none⟩ = some (.int .i64 0) := zz.row.cell (i := 2) (by omega)
  have f2 := zz.row.frozen 2
  have c3 : w9.cell? ⟨w.heap.size, 3, none⟩ = some (.int .i64 0) := zz.row.cell (i := 3) (by omega)
  have f3 := zz.row.frozen 3
  have c4 : w9.cell? ⟨w.heap.size, 4, none⟩ = some (.int .i64 0) := zz.row.cell (i := 4) (by omega)
  have f4 := zz.row.frozen 4
  have c5 : w9.cell? ⟨w.heap.size, 5, none⟩ = some (.int .i64 0) := zz.row.cell (i := 5) (by omega)
  have f5 := zz.row.frozen 5
  have c6 : w9.cell? ⟨w.heap.size, 6, none⟩ = some (.int .i64 0) := zz.row.cell (i := 6) (by omega)
  have f6 := zz.row.frozen 6
  have c7 : w9.cell? ⟨w.heap.size, 7, none⟩ = some (.int .i64 0) := zz.row.cell (i := 7) (by omega)
  have f7 := zz.row.frozen 7
  clear zz
  have dd := uh D9
  have x0 : w9.cell? ⟨w1.heap.size, 0, none⟩ = some (.int .i64 (op)) := dd.row.cell (i := 0) (by omega)
  have g0 := dd.row.frozen 0
  have x1 : w9.cell? ⟨w1.heap.size, 1, none⟩ = some (.int .i64 (sm)) := dd.row.cell (i := 1) (by omega)
  have g1 := dd.row.frozen 1
  have x2 : w9.cell? ⟨w1.heap.size, 2, none⟩ = some (.int .i64 (sr)) := dd.row.cell (i := 2) (by omega)
  have g2 := dd.row.frozen 2
  have x3 : w9.cell? ⟨w1.heap.size, 3, none⟩ = some (.int .i64 (0)) := dd.row.cell (i := 3) (by omega)
  have g3 := dd.row.frozen 3
  have x4 : w9.cell? ⟨w1.heap.size, 4, none⟩ = some (.int .i64 (dm)) := dd.row.cell (i := 4) (by omega)
  have g4 := dd.row.frozen 4
  have x5 : w9.cell? ⟨w1.heap.size, 5, none⟩ = some (.int .i64 (dr)) := dd.row.cell (i := 5) (by omega)
  have g5 := dd.row.frozen 5
  have x6 : w9.cell? ⟨w1.heap.size, 6, none⟩ = some (.int .i64 (0)) := dd.row.cell (i := 6) (by omega)
  have g6 := dd.row.frozen 6
  have x7 : w9.cell? ⟨w1.heap.size, 7, none⟩ = some (.int .i64 (x)) := dd.row.cell (i := 7) (by omega)
  have g7 := dd.row.frozen 7
  clear dd
  go_wp2
  refine bodyPost_ret (results_row3 (P := Tryz.prog) rfl _ _ w.heap.size 48 (cs8 [op, sm, sr, 0, dm, dr, 0, x]) (0, 0) _ rfl (row8_heap (((uh D9).rz).put (op) (sm) (sr) (0) (dm) (dr) (0) (x)).row) Tryz.underlying48 rfl (by kernel_rfl)) rfl ?_
  refine ⟨congrArg Ending.returned (Eq.trans ?_ (decV_yes (uh HOKE))), (((uh D9).rz).put (op) (sm) (sr) (0) (dm) (dr) (0) (x)).bel⟩
  rw [uh HDX, uh HNE]
  refine congrArg (fun z : Int => Value.tuple #[_, Value.int .i64 z, Value.bool true]) ?_; omega
set_option maxRecDepth 100000 in
theorem decS_FT (b off len cap : Nat) (ns : List Int) (p q : Nat) (op sm sr dm dr x : Int) (w : World) (hl : ns.length = len) (hm : len ≤ 1099511627776) (hb : b < w.heap.size) (hc : ∀ i, i < ns.length → w.cell? ⟨b, off + i, none⟩ = some (.int .i64 (nAt ns i)))
  (hp : p < len) (hq : nAt ns p = (q : Int)) (hq2 : q < 65536) (hD : dOp (q : Int) = ⟨op, ⟨sm, sr, 0⟩, ⟨dm, dr, 0⟩, x⟩) (ho : 0 ≤ op ∧ op ≤ 23) (h6 : op ≤ 6) (hsX : Od.hasX ⟨sm, sr, 0⟩ = false) (h15 : op ≤ 15) (hdX : Od.hasX ⟨dm, dr, 0⟩ = true) :
  Calls Tryz.prog 23 #[.slice (some ⟨b, off, none⟩) len cap, .int .i64 (p : Int)] w fun e w' => e = .returned (decV ns (p : Int)) ∧ Below w.heap.size w w' := by
 have Z0 := hide (rz_new w)
 have i1 : inB (p : Int) 0 ((len : Int) - 1) = true := inB_tQ _ _ _ (by omega)
 have i2 : inB (q : Int) 0 65535 = true := inB_tQ _ _ _ (by omega)
 have HOI := hide (decOk_in (ns := ns) (i := (p : Int)) (by unfold decIn; rw [hl, i1, Int.toNat_natCast, hq, i2]; rfl))
 have HNE := hide (show (dOp (nAt ns (p : Int).toNat)).need = 1 by rw [Int.toNat_natCast, hq, hD]; unfold Is.need; rw [hsX, hdX]; rfl)
 have HXE := hide (show decX ns (p : Int) = ⟨op, ⟨sm, sr, 0⟩, ⟨dm, dr, nAt ns (p + 1)⟩, x⟩ by unfold decX; rw [Int.toNat_natCast, hq, hD]; unfold Is.fill; simp only [hsX, hdX]; rfl)
 have CL := hide (fun (w' : World) (hbel : Below w.heap.size w w') i (hi : i < len) => (hbel.cell (p := ⟨b, off + i, none⟩) hb).trans (hc i (by omega)))
 have hc0 : ∀ o, (w.alloc o).cell? ⟨b, off + p, none⟩ = some (.int .i64 (q : Int)) := fun o => by rw [← hq]; exact alloc_cell (hc p (by omega)) o
 have L4 := hide (fun w => l4Op_any q hq2 w)
 rw [hD] at L4
 have FS := hide (fun w => hasX_any ⟨sm, sr, 0⟩ w)
 have FD := hide (fun w => hasX_any ⟨dm, dr, 0⟩ w)
 rw [hsX] at FS
 rw [hdX] at FD
 unfold Is.v at L4
 unfold Od.v at FS FD
 simp only at L4 FS FD
 clear hc hD hsX hdX hq
 go_enter Tryz.func23, Tryz.ntmps23
 go_wp2_with (go_at_call 13; refine (in_any _ _ _ _).mono ?_; rintro e w' ⟨rfl, hw'⟩; rw [hw']; clear hw' w')
 refine (uh L4 _).mono ?_
 rintro e w1 ⟨rfl, hb1⟩
 have Z1 := hide ((uh Z0).later hb1)
 have D1 := hide (dz_new (uh Z1) [op, sm, sr, 0, dm, dr, 0, x])
 clear hb1 Z0 L4
 go_wp2_with fail
 refine (uh FS _).mono ?_
 rintro e w3 ⟨rfl, hb3⟩
 have D3 := hide ((uh D1).later hb3)
 clear hb3 D1
 have dd := uh D3
 have x0 : w3.cell? ⟨w1.heap.size, 0, none⟩ = some (.int .i64 (op)) := dd.row.cell (i := 0) (by omega)
 have g0 := dd.row.frozen 0
 have x1 : w3.cell? ⟨w1.heap.size, 1, none⟩ = some (.int .i64 (sm)) := dd.row.cell (i := 1) (by omega)
 have g1 := dd.row.frozen 1
 have x2 : w3.cell? ⟨w1.heap.size, 2, none⟩ = some (.int .i64 (sr)) := dd.row.cell (i := 2) (by omega)
 have g2 := dd.row.frozen 2
 have x3 : w3.cell? ⟨w1.heap.size, 3, none⟩ = some (.int .i64 (0)) := dd.row.cell (i := 3) (by omega)
 have g3 := dd.row.frozen 3
 have x4 : w3.cell? ⟨w1.heap.size, 4, none⟩ = some (.int .i64 (dm)) := dd.row.cell (i := 4) (by omega)
 have g4 := dd.row.frozen 4
 have x5 : w3.cell? ⟨w1.heap.size, 5, none⟩ = some (.int .i64 (dr)) := dd.row.cell (i := 5) (by omega)
 have g5 := dd.row.frozen 5
 have x6 : w3.cell? ⟨w1.heap.size, 6, none⟩ = some (.int .i64 (0)) := dd.row.cell (i := 6) (by omega)
 have g6 := dd.row.frozen 6
 have x7 : w3.cell? ⟨w1.heap.size, 7, none⟩ = some (.int .i64 (x)) := dd.row.cell (i := 7) (by omega)
 have g7 := dd.row.frozen 7
 clear dd
 go_wp2_with fail
 refine (uh FD _).mono ?_
 rintro e w5 ⟨rfl, hb5⟩
 have D5 := hide ((uh D3).later hb5)
 clear hb5 D3
 clear x0 g0 x1 g1 x2 g2 x3 g3 x4 g4 x5 g5 x6 g6 x7 g7
 have dd := uh D5
 have x0 : w5.cell? ⟨w1.heap.size, 0, none⟩ = some (.int .i64 (op)) := dd.row.cell (i := 0) (by omega)
 have g0 := dd.row.frozen 0
 have x1 : w5.cell? ⟨w1.heap.size, 1, none⟩ = some (.int .i64 (sm)) := dd.row.cell (i := 1) (by omega)
 have g1 := dd.row.frozen 1
 have x2 : w5.cell? ⟨w1.heap.size, 2, none⟩ = some (.int .i64 (sr)) := dd.row.cell (i := 2) (by omega)
 have g2 := dd.row.frozen 2
 have x3 : w5.cell? ⟨w1.heap.size, 3, none⟩ = some (.int .i64 (0)) := dd.row.cell (i := 3) (by omega)
 have g3 := dd.row.frozen 3
 have x4 : w5.cell? ⟨w1.heap.size, 4, none⟩ = some (.int .i64 (dm)) := dd.row.cell (i := 4) (by omega)
 have g4 := dd.row.frozen 4
 have x5 : w5.cell? ⟨w1.heap.size, 5, none⟩ = some (.int .i64 (dr)) := dd.row.cell (i := 5) (by omega)
 have g5 := dd.row.frozen 5
 have x6 : w5.cell? ⟨w1.heap.size, 6, none⟩ = some (.int .i64 (0)) := dd.row.cell (i := 6) (by omega)
 have g6 := dd.row.frozen 6
 have x7 : w5.cell? ⟨w1.heap.size, 7, none⟩ = some (.int .i64 (x)) := dd.row.cell (i := 7) (by omega)
 have g7 := dd.row.frozen 7
 clear dd
 by_cases hsh2 : p + 1 < len
 ·
  have hk2 := uh CL w5 (uh D5).rz.bel (p + 1) hsh2
  have D6 := hide ((uh D5).set 6 (nAt ns (p + 1)) [op, sm, sr, 0, dm, dr, nAt ns (p + 1), x] (fun j hj => by rcases j with _ | _ | _ | _ | _ | _ | _ | _ | j <;> first | rfl | omega))
  clear D5
  go_wp2_with fail
  refine (insOk_any ⟨op, ⟨sm, sr, 0⟩, ⟨dm, dr, nAt ns (p + 1)⟩, x⟩ _).mono ?_
  rintro e w9 ⟨rfl, hb9⟩
  have D9 := hide ((uh D6).later hb9)
  have HDX := hide (show decX ns (p : Int) = ⟨op, ⟨sm, sr, 0⟩, ⟨dm, dr, nAt ns (p + 1)⟩, x⟩ by rw [uh HXE])
  have HOKE := hide (show decOk ns (p : Int) = Is.ok ⟨op, ⟨sm, sr, 0⟩, ⟨dm, dr, nAt ns (p + 1)⟩, x⟩ by rw [uh HOI, uh HNE, uh HDX, decide_eq_true (by omega), Bool.true_and])
  clear hb9
  cases hok : Is.ok ⟨op, ⟨sm, sr, 0⟩, ⟨dm, dr, nAt ns (p + 1)⟩, x⟩
  ·
   rw [hok] at HOKE
   have zz := (uh D9).rz
   have c0 : w9.cell? ⟨w.heap.size, 0, none⟩ = some (.int .i64 0) := zz.row.cell (i := 0) (by omega)
   have f0 := zz.row.frozen 0
   have c1 : w9.cell? ⟨w.heap.size, 1, none⟩ = some (.int .i64 0) := zz.row.cell (i := 1) (by omega)
   have f1 := zz.row.frozen 1
   have c2 : w9.cell? ⟨w.heap.size, 2, none⟩ = some (.int .i64 0) := zz.row.cell (i := 2) (by omega)
   have f2 := zz.row.frozen 2
   have c3 : w9.cell? ⟨w.heap.size, 3, none⟩ = some (.int .i64 0) := zz.row.cell (i := 3) (by omega)
   have f3 := zz.row.frozen 3
   have c4 : w9.cell? ⟨w.heap.size, 4, none⟩ = some (.int .i64 0) := zz.row.cell (i := 4) (by omega)
   have f4 := zz.row.frozen 4
   have c5 : w9.cell? ⟨w.heap.size, 5, none⟩ = some (.int .i64 0) := zz.row.cell (i := 5) (by omega)
   have f5 := zz.row.frozen 5
   have c6 : w9.cell? ⟨w.heap.size, 6, none⟩ = some (.int .i64 0) := zz.row.cell (i := 6) (by omega)
   have f6 := zz.row.frozen 6
   have c7 : w9.cell? ⟨w.heap.size, 7, none⟩ = some (.int .i64 0) := zz.row.cell (i := 7) (by omega)
   have f7 := zz.row.frozen 7
   clear zz
   go_wp2
   refine bodyPost_ret (results_row3 (P := Tryz.prog) rfl _ _ w.heap.size 48 (cs8 [0, 0, 0, 0, 0, 0, 0, 0]) (0, 0) _ rfl (row8_heap (((uh D9).rz).put 0 0 0 0 0 0 0 0).row) Tryz.underlying48 rfl (by kernel_rfl)) rfl ?_
   exact ⟨congrArg Ending.returned (decV_no (uh HOKE)), (((uh D9).rz).put 0 0 0 0 0 0 0 0).bel⟩
  ·
   rw [hok] at HOKE
   have zz := (uh D9).rz
   have c0 : w9.cell? ⟨w.heap.size, 0, none⟩ = some (.int .i64 0) := zz.row.cell (i := 0) (by omega)
   have f0 := zz.row.frozen 0
   have c1 : w9.cell? ⟨w.heap.size, 1, none⟩ = some (.int .i64 0) := zz.row.cell (i := 1) (by omega)
   have f1 := zz.row.frozen 1
   have c2 : w9.cell? ⟨w.heap.size, 2, none⟩ = some (.int .i64 0) := zz.row.cell (i := 2) (by omega)
   have f2 := zz.row.frozen 2
   have c3 : w9.cell? ⟨w.heap.size, 3, none⟩ = some (.int .i64 0) := zz.row.cell (i := 3) (by omega)
   have f3 := zz.row.frozen 3
   have c4 : w9.cell? ⟨w.heap.size, 4, none⟩ = some (.int .i64 0) := zz.row.cell (i := 4) (by omega)
   have f4 := zz.row.frozen 4
   have c5 : w9.cell? ⟨w.heap.size, 5, none⟩ = some (.int .i64 0) := zz.row.cell (i := 5) (by omega)
   have f5 := zz.row.frozen 5
   have c6 : w9.cell? ⟨w.heap.size, 6, none⟩ = some (.int .i64 0) := zz.row.cell (i := 6) (by omega)
   have f6 := zz.row.frozen 6
   have c7 : w9.cell? ⟨w.heap.size, 7, none⟩ = some (.int .i64 0) := zz.row.cell (i := 7) (by omega)
   have f7 := zz.row.frozen 7
   clear zz
   have dd := uh D9
   have x0 : w9.cell? ⟨w1.heap.size, 0, none⟩ = some (.int .i64 (op)) := dd.row.cell (i := 0) (by omega)
   have g0 := dd.row.frozen 0
   have x1 : w9.cell? ⟨w1.heap.size, 1, none⟩ = some (.int .i64 (sm)) := dd.row.cell (i := 1) (by omega)
   have g1 := dd.row.frozen 1
   have x2 : w9.cell? ⟨w1.heap.size, 2, none⟩ = some (.int .i64 (sr)) := dd.row.cell (i := 2) (by omega)
   have g2 := dd.row.frozen 2
   have x3 : w9.cell? ⟨w1.heap.size, 3, none⟩ = some (.int .i64 (0)) := dd.row.cell (i := 3) (by omega)
   have g3 := dd.row.frozen 3
   have x4 : w9.cell? ⟨w1.heap.size, 4, none⟩ = some (.int .i64 (dm)) := dd.row.cell (i := 4) (by omega)
   have g4 := dd.row.frozen 4
   have x5 : w9.cell? ⟨w1.heap.size, 5, none⟩ = some (.int .i64 (dr)) := dd.row.cell (i := 5) (by omega)
   have g5 := dd.row.frozen 5
   have x6 : w9.cell? ⟨w1.heap.size, 6, none⟩ = some (.int .i64 (nAt ns (p + 1))) := dd.row.cell (i := 6) (by omega)
   have g6 := dd.row.frozen 6
   have x7 : w9.cell? ⟨w1.heap.size, 7, none⟩ = some (.int .i64 (x)) := dd.row.cell (i := 7) (by omega)
   have g7 := dd.row.frozen 7
   clear dd
   go_wp2
   refine bodyPost_ret (results_row3 (P := Tryz.prog) rfl _ _ w.heap.size 48 (cs8 [op, sm, sr, 0, dm, dr, nAt ns (p + 1), x]) (0, 0) _ rfl (row8_heap (((uh D9).rz).put (op) (sm) (sr) (0) (dm) (dr) (nAt ns (p + 1)) (x)).row) Tryz.underlying48 rfl (by kernel_rfl)) rfl ?_
   refine ⟨congrArg Ending.returned (Eq.trans ?_ (decV_yes (uh HOKE))), (((uh D9).rz).put (op) (sm) (sr) (0) (dm) (dr) (nAt ns (p + 1)) (x)).bel⟩
   rw [uh HDX, uh HNE]
   refine congrArg (fun z : Int => Value.tuple #[_, Value.int .i64 z, Value.bool true]) ?_; omega
 ·
  have zz := (uh D5).rz
  have c0 : w5.cell? ⟨w.heap.size, 0, none⟩ = some (.int .i64 0) := zz.row.cell (i := 0) (by omega)
  have f0 := zz.row.frozen 0
  have c1 : w5.cell? ⟨w.heap.size, 1, none⟩ = some (.int .i64 0) := zz.row.cell (i := 1) (by omega)
  have f1 := zz.row.frozen 1
  have c2 : w5.cell? ⟨w.heap.size, 2, none⟩ = some (.int .i64 0) := zz.row.cell (i := 2) (by omega)
  have f2 := zz.row.frozen 2
  have c3 : w5.cell? ⟨w.heap.size, 3, none⟩ = some (.int .i64 0) := zz.row.cell (i := 3) (by omega)
  have f3 := zz.row.frozen 3
  have c4 : w5.cell? ⟨w.heap.size, 4, none⟩ = some (.int .i64 0) := zz.row.cell (i := 4) (by omega)
  have f4 := zz.row.frozen 4
  have c5 : w5.cell? ⟨w.heap.size, 5, none⟩ = some (.int .i64 0) := zz.row.cell (i := 5) (by omega)
  have f5 := zz.row.frozen 5
  have c6 : w5.cell? ⟨w.heap.size, 6, none⟩ = some (.int .i64 0) := zz.row.cell (i := 6) (by omega)
  have f6 := zz.row.frozen 6
  have c7 : w5.cell? ⟨w.heap.size, 7, none⟩ = some (.int .i64 0) := zz.row.cell (i := 7) (by omega)
  have f7 := zz.row.frozen 7
  clear zz
  have HNO := hide (show decOk ns (p : Int) = false by rw [uh HOI, uh HNE, Int.toNat_natCast, decide_eq_false (by omega), Bool.false_and])
  go_wp2
  refine bodyPost_ret (results_row3 (P := Tryz.prog) rfl _ _ w.heap.size 48 (cs8 [0, 0, 0, 0, 0, 0, 0, 0]) (0, 0) _ rfl (row8_heap (((uh D5).rz).put 0 0 0 0 0 0 0 0).row) Tryz.underlying48 rfl (by kernel_rfl)) rfl ?_
  exact ⟨congrArg Ending.returned (decV_no (uh HNO)), (((uh D5).rz).put 0 0 0 0 0 0 0 0).bel⟩
set_option maxRecDepth 100000 in
theorem decS_TF (b off len cap : Nat) (ns : List Int) (p q : Nat) (op sm sr dm dr x : Int) (w : World) (hl : ns.length = len) (hm : len ≤ 1099511627776) (hb : b < w.heap.size) (hc : ∀ i, i < ns.length → w.cell? ⟨b, off + i, none⟩ = some (.int .i64 (nAt ns i)))
  (hp : p < len) (hq : nAt ns p = (q : Int)) (hq2 : q < 65536) (hD : dOp (q : Int) = ⟨op, ⟨sm, sr, 0⟩, ⟨dm, dr, 0⟩, x⟩) (ho : 0 ≤ op ∧ op ≤ 23) (h6 : op ≤ 6) (hsX : Od.hasX ⟨sm, sr, 0⟩ = true) (h15 : op ≤ 15) (hdX : Od.hasX ⟨dm, dr, 0⟩ = false) :
  Calls Tryz.prog 23 #[.slice (some ⟨b, off, none⟩) len cap, .int .i64 (p : Int)] w fun e w' => e = .returned (decV ns (p : Int)) ∧ Below w.heap.size w w' := by
 have Z0 := hide (rz_new w)
 have i1 : inB (p : Int) 0 ((len : Int) - 1) = true := inB_tQ _ _ _ (by omega)
 have i2 : inB (q : Int) 0 65535 = true := inB_tQ _ _ _ (by omega)
 have HOI := hide (decOk_in (ns := ns) (i := (p : Int)) (by unfold decIn; rw [hl, i1, Int.toNat_natCast, hq, i2]; rfl))
 have HNE := hide (show (dOp (nAt ns (p : Int).toNat)).need = 1 by rw [Int.toNat_natCast, hq, hD]; unfold Is.need; rw [hsX, hdX]; rfl)
 have HXE := hide (show decX ns (p : Int) = ⟨op, ⟨sm, sr, nAt ns (p + 1)⟩, ⟨dm, dr, 0⟩, x⟩ by unfold decX; rw [Int.toNat_natCast, hq, hD]; unfold Is.fill; simp only [hsX, hdX]; rfl)
 have CL := hide (fun (w' : World) (hbel : Below w.heap.size w w') i (hi : i < len) => (hbel.cell (p := ⟨b, off + i, none⟩) hb).trans (hc i (by omega)))
 have hc0 : ∀ o, (w.alloc o).cell? ⟨b, off + p, none⟩ = some (.int .i64 (q : Int)) := fun o => by rw [← hq]; exact alloc_cell (hc p (by omega)) o
 have L4 := hide (fun w => l4Op_any q hq2 w)
 rw [hD] at L4
 have FS := hide (fun w => hasX_any ⟨sm, sr, 0⟩ w)
 have FD := hide (fun w => hasX_any ⟨dm, dr, 0⟩ w)
 rw [hsX] at FS
 rw [hdX] at FD
 unfold Is.v at L4
 unfold Od.v at FS FD
 simp only at L4 FS FD
 clear hc hD hsX hdX hq
 go_enter Tryz.func23, Tryz.ntmps23
 go_wp2_with (go_at_call 13; refine (in_any _ _ _ _).mono ?_; rintro e w' ⟨rfl, hw'⟩; rw [hw']; clear hw' w')
 refine (uh L4 _).mono ?_
 rintro e w1 ⟨rfl, hb1⟩
 have Z1 := hide ((uh Z0).later hb1)
 have D1 := hide (dz_new (uh Z1) [op, sm, sr, 0, dm, dr, 0, x])
 clear hb1 Z0 L4
 go_wp2_with fail
 refine (uh FS _).mono ?_
 rintro e w3 ⟨rfl, hb3⟩
 have D3 := hide ((uh D1).later hb3)
 clear hb3 D1
 have dd := uh D3
 have x0 : w3.cell? ⟨w1.heap.size, 0, none⟩ = some (.int .i64 (op)) := dd.row.cell (i := 0) (by omega)
 have g0 := dd.row.frozen 0
 have x1 : w3.cell? ⟨w1.heap.size, 1, none⟩ = some (.int .i64 (sm)) := dd.row.cell (i := 1) (by omega)
 have g1 := dd.row.frozen 1
 have x2 : w3.cell? ⟨w1.heap.size, 2, none⟩ = some (.int .i64 (sr)) := dd.row.cell (i := 2) (by omega)
 have g2 := dd.row.frozen 2
 have x3 : w3.cell? ⟨w1.heap.size, 3, none⟩ = some (.int .i64 (0)) := dd.row.cell (i := 3) (by omega)
 have g3 := dd.row.frozen 3
 have x4 : w3.cell? ⟨w1.heap.size, 4, none⟩ = some (.int .i64 (dm)) := dd.row.cell (i := 4) (by omega)
 have g4 := dd.row.frozen 4
 have x5 : w3.cell? ⟨w1.heap.size, 5, none⟩ = some (.int .i64 (dr)) := dd.row.cell (i := 5) (by omega)
 have g5 := dd.row.frozen 5
 have x6 : w3.cell? ⟨w1.heap.size, 6, none⟩ = some (.int .i64 (0)) := dd.row.cell (i := 6) (by omega)
 have g6 := dd.row.frozen 6
 have x7 : w3.cell? ⟨w1.heap.size, 7, none⟩ = some (.int .i64 (x)) := dd.row.cell (i := 7) (by omega)
 have g7 := dd.row.frozen 7
 clear dd
 by_cases hsh : p + 1 < len
 ·
  have hk1 := uh CL w3 (uh D3).rz.bel (p + 1) hsh
  have D4 := hide ((uh D3).set 3 (nAt ns (p + 1)) [op, sm, sr, nAt ns (p + 1), dm, dr, 0, x] (fun j hj => by rcases j with _ | _ | _ | _ | _ | _ | _ | _ | j <;> first | rfl | omega))
  clear D3
  go_wp2_with fail
  refine (uh FD _).mono ?_
  rintro e w5 ⟨rfl, hb5⟩
  have D5 := hide ((uh D4).later hb5)
  clear hb5 D4
  clear x0 g0 x1 g1 x2 g2 x3 g3 x4 g4 x5 g5 x6 g6 x7 g7
  have dd := uh D5
  have x0 : w5.cell? ⟨w1.heap.size, 0, none⟩ = some (.int .i64 (op)) := dd.row.cell (i := 0) (by omega)
  have g0 := dd.row.frozen 0
  have x1 : w5.cell? ⟨w1.heap.size, 1, none⟩ = some (.int .i64 (sm)) := dd.row.cell (i := 1) (by omega)
  have g1 := dd.row.frozen 1
  have x2 : w5.cell? ⟨w1.heap.size, 2, none⟩ = some (.int .i64 (sr)) := dd.row.cell (i := 2) (by omega)
  have g2 := dd.row.frozen 2
  have x3 : w5.cell? ⟨w1.heap.size, 3, none⟩ = some (.int .i64 (nAt ns (p + 1))) := dd.row.cell (i := 3) (by omega)
  have g3 := dd.row.frozen 3
  have x4 : w5.cell? ⟨w1.heap.size, 4, none⟩ = some (.int .i64 (dm)) := dd.row.cell (i := 4) (by omega)
  have g4 := dd.row.frozen 4
  have x5 : w5.cell? ⟨w1.heap.size, 5, none⟩ = some (.int .i64 (dr)) := dd.row.cell (i := 5) (by omega)
  have g5 := dd.row.frozen 5
  have x6 : w5.cell? ⟨w1.heap.size, 6, none⟩ = some (.int .i64 (0)) := dd.row.cell (i := 6) (by omega)
  have g6 := dd.row.frozen 6
  have x7 : w5.cell? ⟨w1.heap.size, 7, none⟩ = some (.int .i64 (x)) := dd.row.cell (i := 7) (by omega)
  have g7 := dd.row.frozen 7
  clear dd
  go_wp2_with fail
  refine (insOk_any ⟨op, ⟨sm, sr, nAt ns (p + 1)⟩, ⟨dm, dr, 0⟩, x⟩ _).mono ?_
  rintro e w9 ⟨rfl, hb9⟩
  have D9 := hide ((uh D5).later hb9)
  have HDX := hide (show decX ns (p : Int) = ⟨op, ⟨sm, sr, nAt ns (p + 1)⟩, ⟨dm, dr, 0⟩, x⟩ by rw [uh HXE])
  have HOKE := hide (show decOk ns (p : Int) = Is.ok ⟨op, ⟨sm, sr, nAt ns (p + 1)⟩, ⟨dm, dr, 0⟩, x⟩ by rw [uh HOI, uh HNE, uh HDX, decide_eq_true (by omega), Bool.true_and])
  clear hb9
  cases hok : Is.ok ⟨op, ⟨sm, sr, nAt ns (p + 1)⟩, ⟨dm, dr, 0⟩, x⟩
  ·
   rw [hok] at HOKE
   have zz := (uh D9).rz
   have c0 : w9.cell? ⟨w.heap.size, 0, none⟩ = some (.int .i64 0) := zz.row.cell (i := 0) (by omega)
   have f0 := zz.row.frozen 0
   have c1 : w9.cell? ⟨w.heap.size, 1, none⟩ = some (.int .i64 0) := zz.row.cell (i := 1) (by omega)
   have f1 := zz.row.frozen 1
   have c2 : w9.cell? ⟨w.heap.size, 2, none⟩ = some (.int .i64 0) := zz.row.cell (i := 2) (by omega)
   have f2 := zz.row.frozen 2
   have c3 : w9.cell? ⟨w.heap.size, 3, none⟩ = some (.int .i64 0) := zz.row.cell (i := 3) (by omega)
   have f3 := zz.row.frozen 3
   have c4 : w9.cell? ⟨w.heap.size, 4, none⟩ = some (.int .i64 0) := zz.row.cell (i := 4) (by omega)
   have f4 := zz.row.frozen 4
   have c5 : w9.cell? ⟨w.heap.size, 5, none⟩ = some (.int .i64 0) := zz.row.cell (i := 5) (by omega)
   have f5 := zz.row.frozen 5
   have c6 : w9.cell? ⟨w.heap.size, 6, none⟩ = some (.int .i64 0) := zz.row.cell (i := 6) (by omega)
   have f6 := zz.row.frozen 6
   have c7 : w9.cell? ⟨w.heap.size, 7, none⟩ = some (.int .i64 0) := zz.row.cell (i := 7) (by omega)
   have f7 := zz.row.frozen 7
   clear zz
   go_wp2
   refine bodyPost_ret (results_row3 (P := Tryz.prog) rfl _ _ w.heap.size 48 (cs8 [0, 0, 0, 0, 0, 0, 0, 0]) (0, 0) _ rfl (row8_heap (((uh D9).rz).put 0 0 0 0 0 0 0 0).row) Tryz.underlying48 rfl (by kernel_rfl)) rfl ?_
   exact ⟨congrArg Ending.returned (decV_no (uh HOKE)), (((uh D9).rz).put 0 0 0 0 0 0 0 0).bel⟩
  ·
   rw [hok] at HOKE
   have zz := (uh D9).rz
   have c0 : w9.cell? ⟨w.heap.size, 0, none⟩ = some (.int .i64 0) := zz.row.cell (i := 0) (by omega)
   have f0 := zz.row.frozen 0
   have c1 : w9.cell? ⟨w.heap.size, 1, none⟩ = some (.int .i64 0) := zz.row.cell (i := 1) (by omega)
   have f1 := zz.row.frozen 1
   have c2 : w9.cell? ⟨w.heap.size, 2, none⟩ = some (.int .i64 0) := zz.row.cell (i := 2) (by omega)
   have f2 := zz.row.frozen 2
   have c3 : w9.cell? ⟨w.heap.size, 3, none⟩ = some (.int .i64 0) := zz.row.cell (i := 3) (by omega)
   have f3 := zz.row.frozen 3
   have c4 : w9.cell? ⟨w.heap.size, 4, none⟩ = some (.int .i64 0) := zz.row.cell (i := 4) (by omega)
   have f4 := zz.row.frozen 4
   have c5 : w9.cell? ⟨w.heap.size, 5, none⟩ = some (.int .i64 0) := zz.row.cell (i := 5) (by omega)
   have f5 := zz.row.frozen 5
   have c6 : w9.cell? ⟨w.heap.size, 6, none⟩ = some (.int .i64 0) := zz.row.cell (i := 6) (by omega)
   have f6 := zz.row.frozen 6
   have c7 : w9.cell? ⟨w.heap.size, 7, none⟩ = some (.int .i64 0) := zz.row.cell (i := 7) (by omega)
   have f7 := zz.row.frozen 7
   clear zz
   have dd := uh D9
   have x0 : w9.cell? ⟨w1.heap.size, 0, none⟩ = some (.int .i64 (op)) := dd.row.cell (i := 0) (by omega)
   have g0 := dd.row.frozen 0
   have x1 : w9.cell? ⟨w1.heap.size, 1, none⟩ = some (.int .i64 (sm)) := dd.row.cell (i := 1) (by omega)
   have g1 := dd.row.frozen 1
   have x2 : w9.cell? ⟨w1.heap.size, 2, none⟩ = some (.int .i64 (sr)) := dd.row.cell (i := 2) (by omega)
   have g2 := dd.row.frozen 2
   have x3 : w9.cell? ⟨w1.heap.size, 3, none⟩ = some (.int .i64 (nAt ns (p + 1))) := dd.row.cell (i := 3) (by omega)
   have g3 := dd.row.frozen 3
   have x4 : w9.cell? ⟨w1.heap.size, 4, none⟩ = some (.int .i64 (dm)) := dd.row.cell (i := 4) (by omega)
   have g4 := dd.row.frozen 4
   have x5 : w9.cell? ⟨w1.heap.size, 5, none⟩ = some (.int .i64 (dr)) := dd.row.cell (i := 5) (by omega)
   have g5 := dd.row.frozen 5
   have x6 : w9.cell? ⟨w1.heap.size, 6, none⟩ = some (.int .i64 (0)) := dd.row.cell (i := 6) (by omega)
   have g6 := dd.row.frozen 6
   have x7 : w9.cell? ⟨w1.heap.size, 7, none⟩ = some (.int .i64 (x)) := dd.row.cell (i := 7) (by omega)
   have g7 := dd.row.frozen 7
   clear dd
   go_wp2
   refine bodyPost_ret (results_row3 (P := Tryz.prog) rfl _ _ w.heap.size 48 (cs8 [op, sm, sr, nAt ns (p + 1), dm, dr, 0, x]) (0, 0) _ rfl (row8_heap (((uh D9).rz).put (op) (sm) (sr) (nAt ns (p + 1)) (dm) (dr) (0) (x)).row) Tryz.underlying48 rfl (by kernel_rfl)) rfl ?_
   refine ⟨congrArg Ending.returned (Eq.trans ?_ (decV_yes (uh HOKE))), (((uh D9).rz).put (op) (sm) (sr) (nAt ns (p + 1)) (dm) (dr) (0) (x)).bel⟩
   rw [uh HDX, uh HNE]
   refine congrArg (fun z : Int => Value.tuple #[_, Value.int .i64 z, Value.bool true]) ?_; omega
 ·
  have zz := (uh D3).rz
  have c0 : w3.cell? ⟨w.heap.size, 0, none⟩ = some (.int .i64 0) := zz.row.cell (i := 0) (by omega)
  have f0 := zz.row.frozen 0
  have c1 : w3.cell? ⟨w.heap.size, 1, none⟩ = some (.int .i64 0) := zz.row.cell (i := 1) (by omega)
  have f1 := zz.row.frozen 1
  have c2 : w3.cell? ⟨w.heap.size, 2, none⟩ = some (.int .i64 0) := zz.row.cell (i := 2) (by omega)
  have f2 := zz.row.frozen 2
  have c3 : w3.cell? ⟨w.heap.size, 3, none⟩ = some (.int .i64 0) := zz.row.cell (i := 3) (by omega)
  have f3 := zz.row.frozen 3
  have c4 : w3.cell? ⟨w.heap.size, 4, none⟩ = some (.int .i64 0) := zz.row.cell (i := 4) (by omega)
  have f4 := zz.row.frozen 4
  have c5 : w3.cell? ⟨w.heap.size, 5, none⟩ = some (.int .i64 0) := zz.row.cell (i := 5) (by omega)
  have f5 := zz.row.frozen 5
  have c6 : w3.cell? ⟨w.heap.size, 6, none⟩ = some (.int .i64 0) := zz.row.cell (i := 6) (by omega)
  have f6 := zz.row.frozen 6
  have c7 : w3.cell? ⟨w.heap.size, 7, none⟩ = some (.int .i64 0) := zz.row.cell (i := 7) (by omega)
  have f7 := zz.row.frozen 7
  clear zz
  have HNO := hide (show decOk ns (p : Int) = false by rw [uh HOI, uh HNE, Int.toNat_natCast, decide_eq_false (by omega), Bool.false_and])
  go_wp2
  refine bodyPost_ret (results_row3 (P := Tryz.prog) rfl _ _ w.heap.size 48 (cs8 [0, 0, 0, 0, 0, 0, 0, 0]) (0, 0) _ rfl (row8_heap (((uh D3).rz).put 0 0 0 0 0 0 0 0).row) Tryz.underlying48 rfl (by kernel_rfl)) rfl ?_
  exact ⟨congrArg Ending.returned (decV_no (uh HNO)), (((uh D3).rz).put 0 0 0 0 0 0 0 0).bel⟩
set_option maxRecDepth 100000 in
theorem decS_TT (b off len cap : Nat) (ns : List Int) (p q : Nat) (op sm sr dm dr x : Int) (w : World) (hl : ns.length = len) (hm : len ≤ 1099511627776) (hb : b < w.heap.size) (hc : ∀ i, i < ns.length → w.cell? ⟨b, off + i, none⟩ = some (.int .i64 (nAt ns i)))
  (hp : p < len) (hq : nAt ns p = (q : Int)) (hq2 : q < 65536) (hD : dOp (q : Int) = ⟨op, ⟨sm, sr, 0⟩, ⟨dm, dr, 0⟩, x⟩) (ho : 0 ≤ op ∧ op ≤ 23) (h6 : op ≤ 6) (hsX : Od.hasX ⟨sm, sr, 0⟩ = true) (h15 : op ≤ 15) (hdX : Od.hasX ⟨dm, dr, 0⟩ = true) :
  Calls Tryz.prog 23 #[.slice (some ⟨b, off, none⟩) len cap, .int .i64 (p : Int)] w fun e w' => e = .returned (decV ns (p : Int)) ∧ Below w.heap.size w w' := by
 have Z0 := hide (rz_new w)
 have i1 : inB (p : Int) 0 ((len : Int) - 1) = true := inB_tQ _ _ _ (by omega)
 have i2 : inB (q : Int) 0 65535 = true := inB_tQ _ _ _ (by omega)
 have HOI := hide (decOk_in (ns := ns) (i := (p : Int)) (by unfold decIn; rw [hl, i1, Int.toNat_natCast, hq, i2]; rfl))
 have HNE := hide (show (dOp (nAt ns (p : Int).toNat)).need = 2 by rw [Int.toNat_natCast, hq, hD]; unfold Is.need; rw [hsX, hdX]; rfl)
 have HXE := hide (show decX ns (p : Int) = ⟨op, ⟨sm, sr, nAt ns (p + 1)⟩, ⟨dm, dr, nAt ns (p + 2)⟩, x⟩ by unfold decX; rw [Int.toNat_natCast, hq, hD]; unfold Is.fill; simp only [hsX, hdX]; rfl)
 have CL := hide (fun (w' : World) (hbel : Below w.heap.size w w') i (hi : i < len) => (hbel.cell (p := ⟨b, off + i, none⟩) hb).trans (hc i (by omega)))
 have hc0 : ∀ o, (w.alloc o).cell? ⟨b, off + p, none⟩ = some (.int .i64 (q : Int)) := fun o => by rw [← hq]; exact alloc_cell (hc p (by omega)) o
 have L4 := hide (fun w => l4Op_any q hq2 w)
 rw [hD] at L4
 have FS := hide (fun w => hasX_any ⟨sm, sr, 0⟩ w)
 have FD := hide (fun w => hasX_any ⟨dm, dr, 0⟩ w)
 rw [hsX] at FS
 rw [hdX] at FD
 unfold Is.v at L4
 unfold Od.v at FS FD
 simp only at L4 FS FD
 clear hc hD hsX hdX hq
 go_enter Tryz.func23, Tryz.ntmps23
 go_wp2_with (go_at_call 13; refine (in_any _ _ _ _).mono ?_; rintro e w' ⟨rfl, hw'⟩; rw [hw']; clear hw' w')
 refine (uh L4 _).mono ?_
 rintro e w1 ⟨rfl, hb1⟩
 have Z1 := hide ((uh Z0).later hb1)
 have D1 := hide (dz_new (uh Z1) [op, sm, sr, 0, dm, dr, 0, x])
 clear hb1 Z0 L4
 go_wp2_with fail
 refine (uh FS _).mono ?_
 rintro e w3 ⟨rfl, hb3⟩
 have D3 := hide ((uh D1).later hb3)
 clear hb3 D1
 have dd := uh D3
 have x0 : w3.cell? ⟨w1.heap.size, 0, none⟩ = some (.int .i64 (op)) := dd.row.cell (i := 0) (by omega)
 have g0 := dd.row.frozen 0
 have x1 : w3.cell? ⟨w1.heap.size, 1, none⟩ = some (.int .i64 (sm)) := dd.row.cell (i := 1) (by omega)
 have g1 := dd.row.frozen 1
 have x2 : w3.cell? ⟨w1.heap.size, 2, none⟩ = some (.int .i64 (sr)) := dd.row.cell (i := 2) (by omega)
 have g2 := dd.row.frozen 2
 have x3 : w3.cell? ⟨w1.heap.size, 3, none⟩ = some (.int .i64 (0)) := dd.row.cell (i := 3) (by omega)
 have g3 := dd.row.frozen 3
 have x4 : w3.cell? ⟨w1.heap.size, 4, none⟩ = some (.int .i64 (dm)) := dd.row.cell (i := 4) (by omega)
 have g4 := dd.row.frozen 4
 have x5 : w3.cell? ⟨w1.heap.size, 5, none⟩ = some (.int .i64 (dr)) := dd.row.cell (i := 5) (by omega)
 have g5 := dd.row.frozen 5
 have x6 : w3.cell? ⟨w1.heap.size, 6, none⟩ = some (.int .i64 (0)) := dd.row.cell (i := 6) (by omega)
 have g6 := dd.row.frozen 6
 have x7 : w3.cell? ⟨w1.heap.size, 7, none⟩ = some (.int .i64 (x)) := dd.row.cell (i := 7) (by omega)
 have g7 := dd.row.frozen 7
 clear dd
 by_cases hsh : p + 1 < len
 ·
  have hk1 := uh CL w3 (uh D3).rz.bel (p + 1) hsh
  have D4 := hide ((uh D3).set 3 (nAt ns (p + 1)) [op, sm, sr, nAt ns (p + 1), dm, dr, 0, x] (fun j hj => by rcases j with _ | _ | _ | _ | _ | _ | _ | _ | j <;> first | rfl | omega))
  clear D3
  go_wp2_with fail
  refine (uh FD _).mono ?_
  rintro e w5 ⟨rfl, hb5⟩
  have D5 := hide ((uh D4).later hb5)
  clear hb5 D4
  clear x0 g0 x1 g1 x2 g2 x3 g3 x4 g4 x5 g5 x6 g6 x7 g7
  have dd := uh D5
  have x0 : w5.cell? ⟨w1.heap.size, 0, none⟩ = some (.int .i64 (op)) := dd.row.cell (i := 0) (by omega)
  have g0 := dd.row.frozen 0
  have x1 : w5.cell? ⟨w1.heap.size, 1, none⟩ = some (.int .i64 (sm)) := dd.row.cell (i := 1) (by omega)
  have g1 := dd.row.frozen 1
  have x2 : w5.cell? ⟨w1.heap.size, 2, none⟩ = some (.int .i64 (sr)) := dd.row.cell (i := 2) (by omega)
  have g2 := dd.row.frozen 2
  have x3 : w5.cell? ⟨w1.heap.size, 3, none⟩ = some (.int .i64 (nAt ns (p + 1))) := dd.row.cell (i := 3) (by omega)
  have g3 := dd.row.frozen 3
  have x4 : w5.cell? ⟨w1.heap.size, 4, none⟩ = some (.int .i64 (dm)) := dd.row.cell (i := 4) (by omega)
  have g4 := dd.row.frozen 4
  have x5 : w5.cell? ⟨w1.heap.size, 5, none⟩ = some (.int .i64 (dr)) := dd.row.cell (i := 5) (by omega)
  have g5 := dd.row.frozen 5
  have x6 : w5.cell? ⟨w1.heap.size, 6, none⟩ = some (.int .i64 (0)) := dd.row.cell (i := 6) (by omega)
  have g6 := dd.row.frozen 6
  have x7 : w5.cell? ⟨w1.heap.size, 7, none⟩ = some (.int .i64 (x)) := dd.row.cell (i := 7) (by omega)
  have g7 := dd.row.frozen 7
  clear dd
  by_cases hsh2 : p + 2 < len
  ·
   have hk2 := uh CL w5 (uh D5).rz.bel (p + 2) hsh2
   have D6 := hide ((uh D5).set 6 (nAt ns (p + 2)) [op, sm, sr, nAt ns (p + 1), dm, dr, nAt ns (p + 2), x] (fun j hj => by rcases j with _ | _ | _ | _ | _ | _ | _ | _ | j <;> first | rfl | omega))
   clear D5
   go_wp2_with fail
   refine (insOk_any ⟨op, ⟨sm, sr, nAt ns (p + 1)⟩, ⟨dm, dr, nAt ns (p + 2)⟩, x⟩ _).mono ?_
   rintro e w9 ⟨rfl, hb9⟩
   have D9 := hide ((uh D6).later hb9)
   have HDX := hide (show decX ns (p : Int) = ⟨op, ⟨sm, sr, nAt ns (p + 1)⟩, ⟨dm, dr, nAt ns (p + 2)⟩, x⟩ by rw [uh HXE])
   have HOKE := hide (show decOk ns (p : Int) = Is.ok ⟨op, ⟨sm, sr, nAt ns (p + 1)⟩, ⟨dm, dr, nAt ns (p + 2)⟩, x⟩ by rw [uh HOI, uh HNE, uh HDX, decide_eq_true (by omega), Bool.true_and])
   clear hb9
   cases hok : Is.ok ⟨op, ⟨sm, sr, nAt ns (p + 1)⟩, ⟨dm, dr, nAt ns (p + 2)⟩, x⟩
   ·
    rw [hok] at HOKE
    have zz := (uh D9).rz
    have c0 : w9.cell? ⟨w.heap.size, 0, none⟩ = some (.int .i64 0) := zz.row.cell (i := 0) (by omega)
    have f0 := zz.row.frozen 0
    have c1 : w9.cell? ⟨w.heap.size, 1, none⟩ = some (.int .i64 0) := zz.row.cell (i := 1) (by omega)
    have f1 := zz.row.frozen 1
    have c2 : w9.cell? ⟨w.heap.size, 2, none⟩ = some (.int .i64 0) := zz.row.cell (i := 2) (by omega)
    have f2 := zz.row.frozen 2
    have c3 : w9.cell? ⟨w.heap.size, 3, none⟩ = some (.int .i64 0) := zz.row.cell (i := 3) (by omega)
    have f3 := zz.row.frozen 3
    have c4 : w9.cell? ⟨w.heap.size, 4, none⟩ = some (.int .i64 0) := zz.row.cell (i := 4) (by omega)
    have f4 := zz.row.frozen 4
    have c5 : w9.cell? ⟨w.heap.size, 5, none⟩ = some (.int .i64 0) := zz.row.cell (i := 5) (by omega)
    have f5 := zz.row.frozen 5
    have c6 : w9.cell? ⟨w.heap.size, 6, none⟩ = some (.int .i64 0) := zz.row.cell (i := 6) (by omega)
    have f6 := zz.row.frozen 6
    have c7 : w9.cell? ⟨w.heap.size, 7, none⟩ = some (.int .i64 0) := zz.row.cell (i := 7) (by omega)
    have f7 := zz.row.frozen 7
    clear zz
    go_wp2
    refine bodyPost_ret (results_row3 (P := Tryz.prog) rfl _ _ w.heap.size 48 (cs8 [0, 0, 0, 0, 0, 0, 0, 0]) (0, 0) _ rfl (row8_heap (((uh D9).rz).put 0 0 0 0 0 0 0 0).row) Tryz.underlying48 rfl (by kernel_rfl)) rfl ?_
    exact ⟨congrArg Ending.returned (decV_no (uh HOKE)), (((uh D9).rz).put 0 0 0 0 0 0 0 0).bel⟩
   ·
    rw [hok] at HOKE
    have zz := (uh D9).rz
    have c0 : w9.cell? ⟨w.heap.size, 0, none⟩ = some (.int .i64 0) := zz.row.cell (i := 0) (by omega)
    have f0 := zz.row.frozen 0
    have c1 : w9.cell? ⟨w.heap.size, 1, none⟩ = some (.int .i64 0) := zz.row.cell (i := 1) (by omega)
    have f1 := zz.row.frozen 1
    have c2 : w9.cell? ⟨w.heap.size, 2, none⟩ = some (.int .i64 0) := zz.row.cell (i := 2) (by omega)
    have f2 := zz.row.frozen 2
    have c3 : w9.cell? ⟨w.heap.size, 3, none⟩ = some (.int .i64 0) := zz.row.cell (i := 3) (by omega)
    have f3 := zz.row.frozen 3
    have c4 : w9.cell? ⟨w.heap.size, 4, none⟩ = some (.int .i64 0) := zz.row.cell (i := 4) (by omega)
    have f4 := zz.row.frozen 4
    have c5 : w9.cell? ⟨w.heap.size, 5, none⟩ = some (.int .i64 0) := zz.row.cell (i := 5) (by omega)
    have f5 := zz.row.frozen 5
    have c6 : w9.cell? ⟨w.heap.size, 6, none⟩ = some (.int .i64 0) := zz.row.cell (i := 6) (by omega)
    have f6 := zz.row.frozen 6
    have c7 : w9.cell? ⟨w.heap.size, 7, none⟩ = some (.int .i64 0) := zz.row.cell (i := 7) (by omega)
    have f7 := zz.row.frozen 7
    clear zz
    have dd := uh D9
    have x0 : w9.cell? ⟨w1.heap.size, 0, none⟩ = some (.int .i64 (op)) := dd.row.cell (i := 0) (by omega)
    have g0 := dd.row.frozen 0
    have x1 : w9.cell? ⟨w1.heap.size, 1, none⟩ = some (.int .i64 (sm)) := dd.row.cell (i := 1) (by omega)
    have g1 := dd.row.frozen 1
    have x2 : w9.cell? ⟨w1.heap.size, 2, none⟩ = some (.int .i64 (sr)) := dd.row.cell (i := 2) (by omega)
    have g2 := dd.row.frozen 2
    have x3 : w9.cell? ⟨w1.heap.size, 3, none⟩ = some (.int .i64 (nAt ns (p + 1))) := dd.row.cell (i := 3) (by omega)
    have g3 := dd.row.frozen 3
    have x4 : w9.cell? ⟨w1.heap.size, 4, none⟩ = some (.int .i64 (dm)) := dd.row.cell (i := 4) (by omega)
    have g4 := dd.row.frozen 4
    have x5 : w9.cell? ⟨w1.heap.size, 5, none⟩ = some (.int .i64 (dr)) := dd.row.cell (i := 5) (by omega)
    have g5 := dd.row.frozen 5
    have x6 : w9.cell? ⟨w1.heap.size, 6, none⟩ = some (.int .i64 (nAt ns (p + 2))) := dd.row.cell (i := 6) (by omega)
    have g6 := dd.row.frozen 6
    have x7 : w9.cell? ⟨w1.heap.size, 7, none⟩ = some (.int .i64 (x)) := dd.row.cell (i := 7) (by omega)
    have g7 := dd.row.frozen 7
    clear dd
    go_wp2
    refine bodyPost_ret (results_row3 (P := Tryz.prog) rfl _ _ w.heap.size 48 (cs8 [op, sm, sr, nAt ns (p + 1), dm, dr, nAt ns (p + 2), x]) (0, 0) _ rfl (row8_heap (((uh D9).rz).put (op) (sm) (sr) (nAt ns (p + 1)) (dm) (dr) (nAt ns (p + 2)) (x)).row) Tryz.underlying48 rfl (by kernel_rfl)) rfl ?_
    refine ⟨congrArg Ending.returned (Eq.trans ?_ (decV_yes (uh HOKE))), (((uh D9).rz).put (op) (sm) (sr) (nAt ns (p + 1)) (dm) (dr) (nAt ns (p + 2)) (x)).bel⟩
    rw [uh HDX, uh HNE]
    refine congrArg (fun z : Int => Value.tuple #[_, Value.int .i64 z, Value.bool true]) ?_; omega
  ·
   have zz := (uh D5).rz
   have c0 : w5.cell? ⟨w.heap.size, 0, none⟩ = some (.int .i64 0) := zz.row.cell (i := 0) (by omega)
   have f0 := zz.row.frozen 0
   have c1 : w5.cell? ⟨w.heap.size, 1, none⟩ = some (.int .i64 0) := zz.row.cell (i := 1) (by omega)
   have f1 := zz.row.frozen 1
   have c2 : w5.cell? ⟨w.heap.size, 2, none⟩ = some (.int .i64 0) := zz.row.cell (i := 2) (by omega)
   have f2 := zz.row.frozen 2
   have c3 : w5.cell? ⟨w.heap.size, 3, none⟩ = some (.int .i64 0) := zz.row.cell (i := 3) (by omega)
   have f3 := zz.row.frozen 3
   have c4 : w5.cell? ⟨w.heap.size, 4, none⟩ = some (.int .i64 0) := zz.row.cell (i := 4) (by omega)
   have f4 := zz.row.frozen 4
   have c5 : w5.cell? ⟨w.heap.size, 5, none⟩ = some (.int .i64 0) := zz.row.cell (i := 5) (by omega)
   have f5 := zz.row.frozen 5
   have c6 : w5.cell? ⟨w.heap.size, 6, none⟩ = some (.int .i64 0) := zz.row.cell (i := 6) (by omega)
   have f6 := zz.row.frozen 6
   have c7 : w5.cell? ⟨w.heap.size, 7, none⟩ = some (.int .i64 0) := zz.row.cell (i := 7) (by omega)
   have f7 := zz.row.frozen 7
   clear zz
   have HNO := hide (show decOk ns (p : Int) = false by rw [uh HOI, uh HNE, Int.toNat_natCast, decide_eq_false (by omega), Bool.false_and])
   go_wp2
   refine bodyPost_ret (results_row3 (P := Tryz.prog) rfl _ _ w.heap.size 48 (cs8 [0, 0, 0, 0, 0, 0, 0, 0]) (0, 0) _ rfl (row8_heap (((uh D5).rz).put 0 0 0 0 0 0 0 0).row) Tryz.underlying48 rfl (by kernel_rfl)) rfl ?_
   exact ⟨congrArg Ending.returned (decV_no (uh HNO)), (((uh D5).rz).put 0 0 0 0 0 0 0 0).bel⟩
 ·
  have zz := (uh D3).rz
  have c0 : w3.cell? ⟨w.heap.size, 0, none⟩ = some (.int .i64 0) := zz.row.cell (i := 0) (by omega)
  have f0 := zz.row.frozen 0
  have c1 : w3.cell? ⟨w.heap.size, 1, none⟩ = some (.int .i64 0) := zz.row.cell (i := 1) (by omega)
  have f1 := zz.row.frozen 1
  have c2 : w3.cell? ⟨w.heap.size, 2, none⟩ = some (.int .i64 0) := zz.row.cell (i := 2) (by omega)
  have f2 := zz.row.frozen 2
  have c3 : w3.cell? ⟨w.heap.size, 3, none⟩ = some (.int .i64 0) := zz.row.cell (i := 3) (by omega)
  have f3 := zz.row.frozen 3
  have c4 : w3.cell? ⟨w.heap.size, 4, none⟩ = some (.int .i64 0) := zz.row.cell (i := 4) (by omega)
  have f4 := zz.row.frozen 4
  have c5 : w3.cell? ⟨w.heap.size, 5, none⟩ = some (.int .i64 0) := zz.row.cell (i := 5) (by omega)
  have f5 := zz.row.frozen 5
  have c6 : w3.cell? ⟨w.heap.size, 6, none⟩ = some (.int .i64 0) := zz.row.cell (i := 6) (by omega)
  have f6 := zz.row.frozen 6
  have c7 : w3.cell? ⟨w.heap.size, 7, none⟩ = some (.int .i64 0) := zz.row.cell (i := 7) (by omega)
  have f7 := zz.row.frozen 7
  clear zz
  have HNO := hide (show decOk ns (p : Int) = false by rw [uh HOI, uh HNE, Int.toNat_natCast, decide_eq_false (by omega), Bool.false_and])
  go_wp2
  refine bodyPost_ret (results_row3 (P := Tryz.prog) rfl _ _ w.heap.size 48 (cs8 [0, 0, 0, 0, 0, 0, 0, 0]) (0, 0) _ rfl (row8_heap (((uh D3).rz).put 0 0 0 0 0 0 0 0).row) Tryz.underlying48 rfl (by kernel_rfl)) rfl ?_
  exact ⟨congrArg Ending.returned (decV_no (uh HNO)), (((uh D3).rz).put 0 0 0 0 0 0 0 0).bel⟩
set_option maxRecDepth 100000 in
theorem decS_NF (b off len cap : Nat) (ns : List Int) (p q : Nat) (op sm sr dm dr x : Int) (w : World) (hl : ns.length = len) (hm : len ≤ 1099511627776) (hb : b < w.heap.size) (hc : ∀ i, i < ns.length → w.cell? ⟨b, off + i, none⟩ = some (.int .i64 (nAt ns i)))
  (hp : p < len) (hq : nAt ns p = (q : Int)) (hq2 : q < 65536) (hD : dOp (q : Int) = ⟨op, ⟨sm, sr, 0⟩, ⟨dm, dr, 0⟩, x⟩) (ho : 0 ≤ op ∧ op ≤ 23) (h6 : 6 < op) (hsX : Od.hasX ⟨sm, sr, 0⟩ = false) (h15 : op ≤ 15) (hdX : Od.hasX ⟨dm, dr, 0⟩ = false) :
  Calls Tryz.prog 23 #[.slice (some ⟨b, off, none⟩) len cap, .int .i64 (p : Int)] w fun e w' => e = .returned (decV ns (p : Int)) ∧ Below w.heap.size w w' := by
 have Z0 := hide (rz_new w)
 have i1 : inB (p : Int) 0 ((len : Int) - 1) = true := inB_tQ _ _ _ (by omega)
 have i2 : inB (q : Int) 0 65535 = true := inB_tQ _ _ _ (by omega)
 have HOI := hide (decOk_in (ns := ns) (i := (p : Int)) (by unfold decIn; rw [hl, i1, Int.toNat_natCast, hq, i2]; rfl))
 have HNE := hide (show (dOp (nAt ns (p : Int).toNat)).need = 0 by rw [Int.toNat_natCast, hq, hD]; unfold Is.need; rw [hsX, hdX]; rfl)
 have HXE := hide (show decX ns (p : Int) = ⟨op, ⟨sm, sr, 0⟩, ⟨dm, dr, 0⟩, x⟩ by unfold decX; rw [Int.toNat_natCast, hq, hD]; unfold Is.fill; simp only [hsX, hdX]; rfl)
 have CL := hide (fun (w' : World) (hbel : Below w.heap.size w w') i (hi : i < len) => (hbel.cell (p := ⟨b, off + i, none⟩) hb).trans (hc i (by omega)))
 have hc0 : ∀ o, (w.alloc o).cell? ⟨b, off + p, none⟩ = some (.int .i64 (q : Int)) := fun o => by rw [← hq]; exact alloc_cell (hc p (by omega)) o
 have L4 := hide (fun w => l4Op_any q hq2 w)
 rw [hD] at L4
 have FS := hide (fun w => hasX_any ⟨sm, sr, 0⟩ w)
 have FD := hide (fun w => hasX_any ⟨dm, dr, 0⟩ w)
 rw [hsX] at FS
 rw [hdX] at FD
 unfold Is.v at L4
 unfold Od.v at FS FD
 simp only at L4 FS FD
 clear hc hD hsX hdX hq
 go_enter Tryz.func23, Tryz.ntmps23
 go_wp2_with (go_at_call 13; refine (in_any _ _ _ _).mono ?_; rintro e w' ⟨rfl, hw'⟩; rw [hw']; clear hw' w')
 refine (uh L4 _).mono ?_
 rintro e w1 ⟨rfl, hb1⟩
 have Z1 := hide ((uh Z0).later hb1)
 have D1 := hide (dz_new (uh Z1) [op, sm, sr, 0, dm, dr, 0, x])
 clear hb1 Z0 L4
 go_wp2_with fail
 refine (uh FD _).mono ?_
 rintro e w5 ⟨rfl, hb5⟩
 have D5 := hide ((uh D1).later hb5)
 clear hb5 D1
 have dd := uh D5
 have x0 : w5.cell? ⟨w1.heap.size, 0, none⟩ = some (.int .i64 (op)) := dd.row.cell (i := 0) (by omega)
 have g0 := dd.row.frozen 0
 have x1 : w5.cell? ⟨w1.heap.size, 1, none⟩ = some (.int .i64 (sm)) := dd.row.cell (i := 1) (by omega)
 have g1 := dd.row.frozen 1
 have x2 : w5.cell? ⟨w1.heap.size, 2, none⟩ = some (.int .i64 (sr)) := dd.row.cell (i := 2) (by omega)
 have g2 := dd.row.frozen 2
 have x3 : w5.cell? ⟨w1.heap.size, 3, none⟩ = some (.int .i64 (0)) := dd.row.cell (i := 3) (by omega)
 have g3 := dd.row.frozen 3
 have x4 : w5.cell? ⟨w1.heap.size, 4, none⟩ = some (.int .i64 (dm)) := dd.row.cell (i := 4) (by omega)
 have g4 := dd.row.frozen 4
 have x5 : w5.cell? ⟨w1.heap.size, 5, none⟩ = some (.int .i64 (dr)) := dd.row.cell (i := 5) (by omega)
 have g5 := dd.row.frozen 5
 have x6 : w5.cell? ⟨w1.heap.size, 6, none⟩ = some (.int .i64 (0)) := dd.row.cell (i := 6) (by omega)
 have g6 := dd.row.frozen 6
 have x7 : w5.cell? ⟨w1.heap.size, 7, none⟩ = some (.int .i64 (x)) := dd.row.cell (i := 7) (by omega)
 have g7 := dd.row.frozen 7
 clear dd
 go_wp2_with fail
 refine (insOk_any ⟨op, ⟨sm, sr, 0⟩, ⟨dm, dr, 0⟩, x⟩ _).mono ?_
 rintro e w9 ⟨rfl, hb9⟩
 have D9 := hide ((uh D5).later hb9)
 have HDX := hide (show decX ns (p : Int) = ⟨op, ⟨sm, sr, 0⟩, ⟨dm, dr, 0⟩, x⟩ by rw [uh HXE])
 have HOKE := hide (show decOk ns (p : Int) = Is.ok ⟨op, ⟨sm, sr, 0⟩, ⟨dm, dr, 0⟩, x⟩ by rw [uh HOI, uh HNE, uh HDX, decide_eq_true (by omega), Bool.true_and])
 clear hb9
 cases hok : Is.ok ⟨op, ⟨sm, sr, 0⟩, ⟨dm, dr, 0⟩, x⟩
 ·
  rw [hok] at HOKE
  have zz := (uh D9).rz
  have c0 : w9.cell? ⟨w.heap.size, 0, none⟩ = some (.int .i64 0) := zz.row.cell (i := 0) (by omega)
  have f0 := zz.row.frozen 0
  have c1 : w9.cell? ⟨w.heap.size, 1, none⟩ = some (.int .i64 0) := zz.row.cell (i := 1) (by omega)
  have f1 := zz.row.frozen 1
  have c2 : w9.cell? ⟨w.heap.size, 2, none⟩ = some (.int .i64 0) := zz.row.cell (i := 2) (by omega)
  have f2 := zz.row.frozen 2
  have c3 : w9.cell? ⟨w.heap.size, 3, none⟩ = some (.int .i64 0) := zz.row.cell (i := 3) (by omega)
  have f3 := zz.row.frozen 3
  have c4 : w9.cell? ⟨w.heap.size, 4, none⟩ = some (.int .i64 0) := zz.row.cell (i := 4) (by omega)
  have f4 := zz.row.frozen 4
  have c5 : w9.cell? ⟨w.heap.size, 5, none⟩ = some (.int .i64 0) := zz.row.cell (i := 5) (by omega)
  have f5 := zz.row.frozen 5
  have c6 : w9.cell? ⟨w.heap.size, 6, none⟩ = some (.int .i64 0) := zz.row.cell (i := 6) (by omega)
  have f6 := zz.row.frozen 6
  have c7 : w9.cell? ⟨w.heap.size, 7, none⟩ = some (.int .i64 0) := zz.row.cell (i := 7) (by omega)
  have f7 := zz.row.frozen 7
  clear zz
  go_wp2
  refine bodyPost_ret (results_row3 (P := Tryz.prog) rfl _ _ w.heap.size 48 (cs8 [0, 0, 0, 0, 0, 0, 0, 0]) (0, 0) _ rfl (row8_heap (((uh D9).rz).put 0 0 0 0 0 0 0 0).row) Tryz.underlying48 rfl (by kernel_rfl)) rfl ?_
  exact ⟨congrArg Ending.returned (decV_no (uh HOKE)), (((uh D9).rz).put 0 0 0 0 0 0 0 0).bel⟩
 ·
  rw [hok] at HOKE
  have zz := (uh D9).rz
  have c0 : w9.cell? ⟨w.heap.size, 0, none⟩ = some (.int .i64 0) := zz.row.cell (i := 0) (by omega)
  have f0 := zz.row.frozen 0
  have c1 : w9.cell? ⟨w.heap.size, 1, none⟩ = some (.int .i64 0) := zz.row.cell (i := 1) (by omega)
  have f1 := zz.row.frozen 1
  have c2 : w9.cell? ⟨w.heap.size, 2, none⟩ = some (.int .i64 0) := zz.row.cell (i := 2) (by omega)
  have f2 := zz.row.frozen 2
  have c3 : w9.cell? ⟨w.heap.size, 3, none⟩ = some (.int .i64 0) := zz.row.cell (i := 3) (by omega)
  have f3 := zz.row.frozen 3
  have c4 : w9.cell? ⟨w.heap.size, 4, none⟩ = some (.int .i64 0) := zz.row.cell (i := 4) (by omega)
  have f4 := zz.row.frozen 4
  have c5 : w9.cell? ⟨w.heap.size, 5, none⟩ = some (.int .i64 0) := zz.row.cell (i := 5) (by omega)
  have f5 := zz.row.frozen 5
  have c6 : w9.cell? ⟨w.heap.size, 6, none⟩ = some (.int .i64 0) := zz.row.cell (i := 6) (by omega)
  have f6 := zz.row.frozen 6
  have c7 : w9.cell? ⟨w.heap.size, 7, none⟩ = some (.int .i64 0) := zz.row.cell (i := 7) (by omega)
  have f7 := zz.row.frozen 7
  clear zz
  have dd := uh D9
  have x0 : w9.cell? ⟨w1.heap.size, 0, none⟩ = some (.int .i64 (op)) := dd.row.cell (i := 0) (by omega)
  have g0 := dd.row.frozen 0
  have x1 : w9.cell? ⟨w1.heap.size, 1, none⟩ = some (.int .i64 (sm)) := dd.row.cell (i := 1) (by omega)
  have g1 := dd.row.frozen 1
  have x2 : w9.cell? ⟨w1.heap.size, 2, none⟩ = some (.int .i64 (sr)) := dd.row.cell (i := 2) (by omega)
  have g2 := dd.row.frozen 2
  have x3 : w9.cell? ⟨w1.heap.size, 3, none⟩ = some (.int .i64 (0)) := dd.row.cell (i := 3) (by omega)
  have g3 := dd.row.frozen 3
  have x4 : w9.cell? ⟨w1.heap.size, 4, none⟩ = some (.int .i64 (dm)) := dd.row.cell (i := 4) (by omega)
  have g4 := dd.row.frozen 4
  have x5 : w9.cell? ⟨w1.heap.size, 5, none⟩ = some (.int .i64 (dr)) := dd.row.cell (i := 5) (by omega)
  have g5 := dd.row.frozen 5
  have x6 : w9.cell? ⟨w1.heap.size, 6, none⟩ = some (.int .i64 (0)) := dd.row.cell (i := 6) (by omega)
  have g6 := dd.row.frozen 6
  have x7 : w9.cell? ⟨w1.heap.size, 7, none⟩ = some (.int .i64 (x)) := dd.row.cell (i := 7) (by omega)
  have g7 := dd.row.frozen 7
  clear dd
  go_wp2
  refine bodyPost_ret (results_row3 (P := Tryz.prog) rfl _ _ w.heap.size 48 (cs8 [op, sm, sr, 0, dm, dr, 0, x]) (0, 0) _ rfl (row8_heap (((uh D9).rz).put (op) (sm) (sr) (0) (dm) (dr) (0) (x)).row) Tryz.underlying48 rfl (by kernel_rfl)) rfl ?_
  refine ⟨congrArg Ending.returned (Eq.trans ?_ (decV_yes (uh HOKE))), (((uh D9).rz).put (op) (sm) (sr) (0) (dm) (dr) (0) (x)).bel⟩
  rw [uh HDX, uh HNE]
  refine congrArg (fun z : Int => Value.tuple #[_, Value.int .i64 z, Value.bool true]) ?_; omega
set_option maxRecDepth 100000 in
theorem decS_NT (b off len cap : Nat) (ns : List Int) (p q : Nat) (op sm sr dm dr x : Int) (w : World) (hl : ns.length = len) (hm : len ≤ 1099511627776) (hb : b < w.heap.size) (hc : ∀ i, i < ns.length → w.cell? ⟨b, off + i, none⟩ = some (.int .i64 (nAt ns i)))
  (hp : p < len) (hq : nAt ns p = (q : Int)) (hq2 : q < 65536) (hD : dOp (q : Int) = ⟨op, ⟨sm, sr, 0⟩, ⟨dm, dr, 0⟩, x⟩) (ho : 0 ≤ op ∧ op ≤ 23) (h6 : 6 < op) (hsX : Od.hasX ⟨sm, sr, 0⟩ = false) (h15 : op ≤ 15) (hdX : Od.hasX ⟨dm, dr, 0⟩ = true) :
  Calls Tryz.prog 23 #[.slice (some ⟨b, off, none⟩) len cap, .int .i64 (p : Int)] w fun e w' => e = .returned (decV ns (p : Int)) ∧ Below w.heap.size w w' := by
 have Z0 := hide (rz_new w)
 have i1 : inB (p : Int) 0 ((len : Int) - 1) = true := inB_tQ _ _ _ (by omega)
 have i2 : inB (q : Int) 0 65535 = true := inB_tQ _ _ _ (by omega)
 have HOI := hide (decOk_in (ns := ns) (i := (p : Int)) (by unfold decIn; rw [hl, i1, Int.toNat_natCast, hq, i2]; rfl))
 have HNE := hide (show (dOp (nAt ns (p : Int).toNat)).need = 1 by rw [Int.toNat_natCast, hq, hD]; unfold Is.need; rw [hsX, hdX]; rfl)
 have HXE := hide (show decX ns (p : Int) = ⟨op, ⟨sm, sr, 0⟩, ⟨dm, dr, nAt ns (p + 1)⟩, x⟩ by unfold decX; rw [Int.toNat_natCast, hq, hD]; unfold Is.fill; simp only [hsX, hdX]; rfl)
 have CL := hide (fun (w' : World) (hbel : Below w.heap.size w w') i (hi : i < len) => (hbel.cell (p := ⟨b, off + i, none⟩) hb).trans (hc i (by omega)))
 have hc0 : ∀ o, (w.alloc o).cell? ⟨b, off + p, none⟩ = some (.int .i64 (q : Int)) := fun o => by rw [← hq]; exact alloc_cell (hc p (by omega)) o
 have L4 := hide (fun w => l4Op_any q hq2 w)
 rw [hD] at L4
 have FS := hide (fun w => hasX_any ⟨sm, sr, 0⟩ w)
 have FD := hide (fun w => hasX_any ⟨dm, dr, 0⟩ w)
 rw [hsX] at FS
 rw [hdX] at FD
 unfold Is.v at L4
 unfold Od.v at FS FD
 simp only at L4 FS FD
 clear hc hD hsX hdX hq
 go_enter Tryz.func23, Tryz.ntmps23
 go_wp2_with (go_at_call 13; refine (in_any _ _ _ _).mono ?_; rintro e w' ⟨rfl, hw'⟩; rw [hw']; clear hw' w')
 refine (uh L4 _).mono ?_
 rintro e w1 ⟨rfl, hb1⟩
 have Z1 := hide ((uh Z0).later hb1)
 have D1 := hide (dz_new (uh Z1) [op, sm, sr, 0, dm, dr, 0, x])
 clear hb1 Z0 L4
 go_wp2_with fail
 refine (uh FD _).mono ?_
 rintro e w5 ⟨rfl, hb5⟩
 have D5 := hide ((uh D1).later hb5)
 clear hb5 D1
 have dd := uh D5
 have x0 : w5.cell? ⟨w1.heap.size, 0, none⟩ = some (.int .i64 (op)) := dd.row.cell (i := 0) (by omega)
 have g0 := dd.row.frozen 0
 have x1 : w5.cell? ⟨w1.heap.size, 1, none⟩ = some (.int .i64 (sm)) := dd.row.cell (i := 1) (by omega)
 have g1 := dd.row.frozen 1
 have x2 : w5.cell? ⟨w1.heap.size, 2, none⟩ = some (.int .i64 (sr)) := dd.row.cell (i := 2) (by omega)
 have g2 := dd.row.frozen 2
 have x3 : w5.cell? ⟨w1.heap.size, 3, none⟩ = some (.int .i64 (0)) := dd.row.cell (i := 3) (by omega)
 have g3 := dd.row.frozen 3
 have x4 : w5.cell? ⟨w1.heap.size, 4, none⟩ = some (.int .i64 (dm)) := dd.row.cell (i := 4) (by omega)
 have g4 := dd.row.frozen 4
 have x5 : w5.cell? ⟨w1.heap.size, 5, none⟩ = some (.int .i64 (dr)) := dd.row.cell (i := 5) (by omega)
 have g5 := dd.row.frozen 5
 have x6 : w5.cell? ⟨w1.heap.size, 6, none⟩ = some (.int .i64 (0)) := dd.row.cell (i := 6) (by omega)
 have g6 := dd.row.frozen 6
 have x7 : w5.cell? ⟨w1.heap.size, 7, none⟩ = some (.int .i64 (x)) := dd.row.cell (i := 7) (by omega)
 have g7 := dd.row.frozen 7
 clear dd
 by_cases hsh2 : p + 1 < len
 ·
  have hk2 := uh CL w5 (uh D5).rz.bel (p + 1) hsh2
  have D6 := hide ((uh D5).set 6 (nAt ns (p + 1)) [op, sm, sr, 0, dm, dr, nAt ns (p + 1), x] (fun j hj => by rcases j with _ | _ | _ | _ | _ | _ | _ | _ | j <;> first | rfl | omega))
  clear D5
  go_wp2_with fail
  refine (insOk_any ⟨op, ⟨sm, sr, 0⟩, ⟨dm, dr, nAt ns (p + 1)⟩, x⟩ _).mono ?_
  rintro e w9 ⟨rfl, hb9⟩
  have D9 := hide ((uh D6).later hb9)
  have HDX := hide (show decX ns (p : Int) = ⟨op, ⟨sm, sr, 0⟩, ⟨dm, dr, nAt ns (p + 1)⟩, x⟩ by rw [uh HXE])
  have HOKE := hide (show decOk ns (p : Int) = Is.ok ⟨op, ⟨sm, sr, 0⟩, ⟨dm, dr, nAt ns (p + 1)⟩, x⟩ by rw [uh HOI, uh HNE, uh HDX, decide_eq_true (by omega), Bool.true_and])
  clear hb9
  cases hok : Is.ok ⟨op, ⟨sm, sr, 0⟩, ⟨dm, dr, nAt ns (p + 1)⟩, x⟩
  ·
   rw [hok] at HOKE
   have zz := (uh D9).rz
   have c0 : w9.cell? ⟨w.heap.size, 0, none⟩ = some (.int .i64 0) := zz.row.cell (i := 0) (by omega)
   have f0 := zz.row.frozen 0
   have c1 : w9.cell? ⟨w.heap.size, 1, none⟩ = some (.int .i64 0) := zz.row.cell (i := 1) (by omega)
   have f1 := zz.row.frozen 1
   have c2 : w9.cell? ⟨w.heap.size, 2, none⟩ = some (.int .i64 0) := zz.row.cell (i := 2) (by omega)
   have f2 := zz.row.frozen 2
   have c3 : w9.cell? ⟨w.heap.size, 3, none⟩ = some (.int .i64 0) := zz.row.cell (i := 3) (by omega)
   have f3 := zz.row.frozen 3
   have c4 : w9.cell? ⟨w.heap.size, 4, none⟩ = some (.int .i64 0) := zz.row.cell (i := 4) (by omega)
   have f4 := zz.row.frozen 4
   have c5 : w9.cell? ⟨w.heap.size, 5, none⟩ = some (.int .i64 0) := zz.row.cell (i := 5) (by omega)
   have f5 := zz.row.frozen 5
   have c6 : w9.cell? ⟨w.heap.size, 6, none⟩ = some (.int .i64 0) := zz.row.cell (i := 6) (by omega)
   have f6 := zz.row.frozen 6
   have c7 : w9.cell? ⟨w.heap.size, 7, none⟩ = some (.int .i64 0) := zz.row.cell (i := 7) (by omega)
   have f7 := zz.row.frozen 7
   clear zz
   go_wp2
   refine bodyPost_ret (results_row3 (P := Tryz.prog) rfl _ _ w.heap.size 48 (cs8 [0, 0, 0, 0, 0, 0, 0, 0]) (0, 0) _ rfl (row8_heap (((uh D9).rz).put 0 0 0 0 0 0 0 0).row) Tryz.underlying48 rfl (by kernel_rfl)) rfl ?_
   exact ⟨congrArg Ending.returned (decV_no (uh HOKE)), (((uh D9).rz).put 0 0 0 0 0 0 0 0).bel⟩
  ·
   rw [hok] at HOKE
   have zz := (uh D9).rz
   have c0 : w9.cell? ⟨w.heap.size, 0, none⟩ = some (.int .i64 0) := zz.row.cell (i := 0) (by omega)
   have f0 := zz.row.frozen 0
   have c1 : w9.cell? ⟨w.heap.size, 1, none⟩ = some (.int .i64 0) := zz.row.cell (i := 1) (by omega)
   have f1 := zz.row.frozen 1
   have c2 : w9.cell? ⟨w.heap.size, 2, none⟩ = some (.int .i64 0) := zz.row.cell (i := 2) (by omega)
   have f2 := zz.row.frozen 2
   have c3 : w9.cell? ⟨w.heap.size, 3, none⟩ = some (.int .i64 0) := zz.row.cell (i := 3) (by omega)
   have f3 := zz.row.frozen 3
   have c4 : w9.cell? ⟨w.heap.size, 4, none⟩ = some (.int .i64 0) := zz.row.cell (i := 4) (by omega)
   have f4 := zz.row.frozen 4
   have c5 : w9.cell? ⟨w.heap.size, 5, none⟩ = some (.int .i64 0) := zz.row.cell (i := 5) (by omega)
   have f5 := zz.row.frozen 5
   have c6 : w9.cell? ⟨w.heap.size, 6, none⟩ = some (.int .i64 0) := zz.row.cell (i := 6) (by omega)
   have f6 := zz.row.frozen 6
   have c7 : w9.cell? ⟨w.heap.size, 7, none⟩ = some (.int .i64 0) := zz.row.cell (i := 7) (by omega)
   have f7 := zz.row.frozen 7
   clear zz
   have dd := uh D9
   have x0 : w9.cell? ⟨w1.heap.size, 0, none⟩ = some (.int .i64 (op)) := dd.row.cell (i := 0) (by omega)
   have g0 := dd.row.frozen 0
   have x1 : w9.cell? ⟨w1.heap.size, 1, none⟩ = some (.int .i64 (sm)) := dd.row.cell (i := 1) (by omega)
   have g1 := dd.row.frozen 1
   have x2 : w9.cell? ⟨w1.heap.size, 2, none⟩ = some (.int .i64 (sr)) := dd.row.cell (i := 2) (by omega)
   have g2 := dd.row.frozen 2
   have x3 : w9.cell? ⟨w1.heap.size, 3, none⟩ = some (.int .i64 (0)) := dd.row.cell (i := 3) (by omega)
   have g3 := dd.row.frozen 3
   have x4 : w9.cell? ⟨w1.heap.size, 4, none⟩ = some (.int .i64 (dm)) := dd.row.cell (i := 4) (by omega)
   have g4 := dd.row.frozen 4
   have x5 : w9.cell? ⟨w1.heap.size, 5, none⟩ = some (.int .i64 (dr)) := dd.row.cell (i := 5) (by omega)
   have g5 := dd.row.frozen 5
   have x6 : w9.cell? ⟨w1.heap.size, 6, none⟩ = some (.int .i64 (nAt ns (p + 1))) := dd.row.cell (i := 6) (by omega)
   have g6 := dd.row.frozen 6
   have x7 : w9.cell? ⟨w1.heap.size, 7, none⟩ = some (.int .i64 (x)) := dd.row.cell (i := 7) (by omega)
   have g7 := dd.row.frozen 7
   clear dd
   go_wp2
   refine bodyPost_ret (results_row3 (P := Tryz.prog) rfl _ _ w.heap.size 48 (cs8 [op, sm, sr, 0, dm, dr, nAt ns (p + 1), x]) (0, 0) _ rfl (row8_heap (((uh D9).rz).put (op) (sm) (sr) (0) (dm) (dr) (nAt ns (p + 1)) (x)).row) Tryz.underlying48 rfl (by kernel_rfl)) rfl ?_
   refine ⟨congrArg Ending.returned (Eq.trans ?_ (decV_yes (uh HOKE))), (((uh D9).rz).put (op) (sm) (sr) (0) (dm) (dr) (nAt ns (p + 1)) (x)).bel⟩
   rw [uh HDX, uh HNE]
   refine congrArg (fun z : Int => Value.tuple #[_, Value.int .i64 z, Value.bool true]) ?_; omega
 ·
  have zz := (uh D5).rz
  have c0 : w5.cell? ⟨w.heap.size, 0, none⟩ = some (.int .i64 0) := zz.row.cell (i := 0) (by omega)
  have f0 := zz.row.frozen 0
  have c1 : w5.cell? ⟨w.heap.size, 1, none⟩ = some (.int .i64 0) := zz.row.cell (i := 1) (by omega)
  have f1 := zz.row.frozen 1
  have c2 : w5.cell? ⟨w.heap.size, 2, none⟩ = some (.int .i64 0) := zz.row.cell (i := 2) (by omega)
  have f2 := zz.row.frozen 2
  have c3 : w5.cell? ⟨w.heap.size, 3, none⟩ = some (.int .i64 0) := zz.row.cell (i := 3) (by omega)
  have f3 := zz.row.frozen 3
  have c4 : w5.cell? ⟨w.heap.size, 4, none⟩ = some (.int .i64 0) := zz.row.cell (i := 4) (by omega)
  have f4 := zz.row.frozen 4
  have c5 : w5.cell? ⟨w.heap.size, 5, none⟩ = some (.int .i64 0) := zz.row.cell (i := 5) (by omega)
  have f5 := zz.row.frozen 5
  have c6 : w5.cell? ⟨w.heap.size, 6, none⟩ = some (.int .i64 0) := zz.row.cell (i := 6) (by omega)
  have f6 := zz.row.frozen 6
  have c7 : w5.cell? ⟨w.heap.size, 7, none⟩ = some (.int .i64 0) := zz.row.cell (i := 7) (by omega)
  have f7 := zz.row.frozen 7
  clear zz
  have HNO := hide (show decOk ns (p : Int) = false by rw [uh HOI, uh HNE, Int.toNat_natCast, decide_eq_false (by omega), Bool.false_and])
  go_wp2
  refine bodyPost_ret (results_row3 (P := Tryz.prog) rfl _ _ w.heap.size 48 (cs8 [0, 0, 0, 0, 0, 0, 0, 0]) (0, 0) _ rfl (row8_heap (((uh D5).rz).put 0 0 0 0 0 0 0 0).row) Tryz.underlying48 rfl (by kernel_rfl)) rfl ?_
  exact ⟨congrArg Ending.returned (decV_no (uh HNO)), (((uh D5).rz).put 0 0 0 0 0 0 0 0).bel⟩
set_option maxRecDepth 100000 in
theorem decS_NN (b off len cap : Nat) (ns : List Int) (p q : Nat) (op sm sr dm dr x : Int) (w : World) (hl : ns.length = len) (hm : len ≤ 1099511627776) (hb : b < w.heap.size) (hc : ∀ i, i < ns.length → w.cell? ⟨b, off + i, none⟩ = some (.int .i64 (nAt ns i)))
  (hp : p < len) (hq : nAt ns p = (q : Int)) (hq2 : q < 65536) (hD : dOp (q : Int) = ⟨op, ⟨sm, sr, 0⟩, ⟨dm, dr, 0⟩, x⟩) (ho : 0 ≤ op ∧ op ≤ 23) (h6 : 6 < op) (hsX : Od.hasX ⟨sm, sr, 0⟩ = false) (h15 : 15 < op) (hdX : Od.hasX ⟨dm, dr, 0⟩ = false) :
  Calls Tryz.prog 23 #[.slice (some ⟨b, off, none⟩) len cap, .int .i64 (p : Int)] w fun e w' => e = .returned (decV ns (p : Int)) ∧ Below w.heap.size w w' := by
 have Z0 := hide (rz_new w)
 have i1 : inB (p : Int) 0 ((len : Int) - 1) = true := inB_tQ _ _ _ (by omega)
 have i2 : inB (q : Int) 0 65535 = true := inB_tQ _ _ _ (by omega)
 have HOI := hide (decOk_in (ns := ns) (i := (p : Int)) (by unfold decIn; rw [hl, i1, Int.toNat_natCast, hq, i2]; rfl))
 have HNE := hide (show (dOp (nAt ns (p : Int).toNat)).need = 0 by rw [Int.toNat_natCast, hq, hD]; unfold Is.need; rw [hsX, hdX]; rfl)
 have HXE := hide (show decX ns (p : Int) = ⟨op, ⟨sm, sr, 0⟩, ⟨dm, dr, 0⟩, x⟩ by unfold decX; rw [Int.toNat_natCast, hq, hD]; unfold Is.fill; simp only [hsX, hdX]; rfl)
 have CL := hide (fun (w' : World) (hbel : Below w.heap.size w w') i (hi : i < len) => (hbel.cell (p := ⟨b, off + i, none⟩) hb).trans (hc i (by omega)))
 have hc0 : ∀ o, (w.alloc o).cell? ⟨b, off + p, none⟩ = some (.int .i64 (q : Int)) := fun o => by rw [← hq]; exact alloc_cell (hc p (by omega)) o
 have L4 := hide (fun w => l4Op_any q hq2 w)
 rw [hD] at L4
 have FS := hide (fun w => hasX_any ⟨sm, sr, 0⟩ w)
 have FD := hide (fun w => hasX_any ⟨dm, dr, 0⟩ w)
 rw [hsX] at FS
 rw [hdX] at FD
 unfold Is.v at L4
 unfold Od.v at FS FD
 simp only at L4 FS FD
 clear hc hD hsX hdX hq
 go_enter Tryz.func23, Tryz.ntmps23
 go_wp2_with (go_at_call 13; refine (in_any _ _ _ _).mono ?_; rintro e w' ⟨rfl, hw'⟩; rw [hw']; clear hw' w')
 refine (uh L4 _).mono ?_
 rintro e w1 ⟨rfl, hb1⟩
 have Z1 := hide ((uh Z0).later hb1)
 have D1 := hide (dz_new (uh Z1) [op, sm, sr, 0, dm, dr, 0, x])
 clear hb1 Z0 L4
 go_wp2_with fail
 refine (insOk_any ⟨op, ⟨sm, sr, 0⟩, ⟨dm, dr, 0⟩, x⟩ _).mono ?_
 rintro e w9 ⟨rfl, hb9⟩
 have D9 := hide ((uh D1).later hb9)
 have HDX := hide (show decX ns (p : Int) = ⟨op, ⟨sm, sr, 0⟩, ⟨dm, dr, 0⟩, x⟩ by rw [uh HXE])
 have HOKE := hide (show decOk ns (p : Int) = Is.ok ⟨op, ⟨sm, sr, 0⟩, ⟨dm, dr, 0⟩, x⟩ by rw [uh HOI, uh HNE, uh HDX, decide_eq_true (by omega), Bool.true_and])
 clear hb9
 cases hok : Is.ok ⟨op, ⟨sm, sr, 0⟩, ⟨dm, dr, 0⟩, x⟩
 ·
  rw [hok] at HOKE
  have zz := (uh D9).rz
  have c0 : w9.cell? ⟨w.heap.size, 0, none⟩ = some (.int .i64 0) := zz.row.cell (i := 0) (by omega)
  have f0 := zz.row.frozen 0
  have c1 : w9.cell? ⟨w.heap.size, 1, none⟩ = some (.int .i64 0) := zz.row.cell (i := 1) (by omega)
  have f1 := zz.row.frozen 1
  have c2 : w9.cell? ⟨w.heap.size, 2, none⟩ = some (.int .i64 0) := zz.row.cell (i := 2) (by omega)
  have f2 := zz.row.frozen 2
  have c3 : w9.cell? ⟨w.heap.size, 3, none⟩ = some (.int .i64 0) := zz.row.cell (i := 3) (by omega)
  have f3 := zz.row.frozen 3
  have c4 : w9.cell? ⟨w.heap.size, 4, none⟩ = some (.int .i64 0) := zz.row.cell (i := 4) (by omega)
  have f4 := zz.row.frozen 4
  have c5 : w9.cell? ⟨w.heap.size, 5, none⟩ = some (.int .i64 0) := zz.row.cell (i := 5) (by omega)
  have f5 := zz.row.frozen 5
  have c6 : w9.cell? ⟨w.heap.size, 6, none⟩ = some (.int .i64 0) := zz.row.cell (i := 6) (by omega)
  have f6 := zz.row.frozen 6
  have c7 : w9.cell? ⟨w.heap.size, 7, none⟩ = some (.int .i64 0) := zz.row.cell (i := 7) (by omega)
  have f7 := zz.row.frozen 7
  clear zz
  go_wp2
  refine bodyPost_ret (results_row3 (P := Tryz.prog) rfl _ _ w.heap.size 48 (cs8 [0, 0, 0, 0, 0, 0, 0, 0]) (0, 0) _ rfl (row8_heap (((uh D9).rz).put 0 0 0 0 0 0 0 0).row) Tryz.underlying48 rfl (by kernel_rfl)) rfl ?_
  exact ⟨congrArg Ending.returned (decV_no (uh HOKE)), (((uh D9).rz).put 0 0 0 0 0 0 0 0).bel⟩
 ·
  rw [hok] at HOKE
  have zz := (uh D9).rz
  have c0 : w9.cell? ⟨w.heap.size, 0, none⟩ = some (.int .i64 0) := zz.row.cell (i := 0) (by omega)
  have f0 := zz.row.frozen 0
  have c1 : w9.cell? ⟨w.heap.size, 1, none⟩ = some (.int .i64 0) := zz.row.cell (i := 1) (by omega)
  have f1 := zz.row.frozen 1
  have c2 : w9.cell? ⟨w.heap.size, 2, none⟩ = some (.int .i64 0) := zz.row.cell (i := 2) (by omega)
  have f2 := zz.row.frozen 2
  have c3 : w9.cell? ⟨w.heap.size, 3, none⟩ = some (.int .i64 0) := zz.row.cell (i := 3) (by omega)
  have f3 := zz.row.frozen 3
  have c4 : w9.cell? ⟨w.heap.size, 4, none⟩ = some (.int .i64 0) := zz.row.cell (i := 4) (by omega)
  have f4 := zz.row.frozen 4
  have c5 : w9.cell? ⟨w.heap.size, 5, none⟩ = some (.int .i64 0) := zz.row.cell (i := 5) (by omega)
  have f5 := zz.row.frozen 5
  have c6 : w9.cell? ⟨w.heap.size, 6, none⟩ = some (.int .i64 0) := zz.row.cell (i := 6) (by omega)
  have f6 := zz.row.frozen 6
  have c7 : w9.cell? ⟨w.heap.size, 7, none⟩ = some (.int .i64 0) := zz.row.cell (i := 7) (by omega)
  have f7 := zz.row.frozen 7
  clear zz
  have dd := uh D9
  have x0 : w9.cell? ⟨w1.heap.size, 0, none⟩ = some (.int .i64 (op)) := dd.row.cell (i := 0) (by omega)
  have g0 := dd.row.frozen 0
  have x1 : w9.cell? ⟨w1.heap.size, 1, none⟩ = some (.int .i64 (sm)) := dd.row.cell (i := 1) (by omega)
  have g1 := dd.row.frozen 1
  have x2 : w9.cell? ⟨w1.heap.size, 2, none⟩ = some (.int .i64 (sr)) := dd.row.cell (i := 2) (by omega)
  have g2 := dd.row.frozen 2
  have x3 : w9.cell? ⟨w1.heap.size, 3, none⟩ = some (.int .i64 (0)) := dd.row.cell (i := 3) (by omega)
  have g3 := dd.row.frozen 3
  have x4 : w9.cell? ⟨w1.heap.size, 4, none⟩ = some (.int .i64 (dm)) := dd.row.cell (i := 4) (by omega)
  have g4 := dd.row.frozen 4
  have x5 : w9.cell? ⟨w1.heap.size, 5, none⟩ = some (.int .i64 (dr)) := dd.row.cell (i := 5) (by omega)
  have g5 := dd.row.frozen 5
  have x6 : w9.cell? ⟨w1.heap.size, 6, none⟩ = some (.int .i64 (0)) := dd.row.cell (i := 6) (by omega)
  have g6 := dd.row.frozen 6
  have x7 : w9.cell? ⟨w1.heap.size, 7, none⟩ = some (.int .i64 (x)) := dd.row.cell (i := 7) (by omega)
  have g7 := dd.row.frozen 7
  clear dd
  go_wp2
  refine bodyPost_ret (results_row3 (P := Tryz.prog) rfl _ _ w.heap.size 48 (cs8 [op, sm, sr, 0, dm, dr, 0, x]) (0, 0) _ rfl (row8_heap (((uh D9).rz).put (op) (sm) (sr) (0) (dm) (dr) (0) (x)).row) Tryz.underlying48 rfl (by kernel_rfl)) rfl ?_
  refine ⟨congrArg Ending.returned (Eq.trans ?_ (decV_yes (uh HOKE))), (((uh D9).rz).put (op) (sm) (sr) (0) (dm) (dr) (0) (x)).bel⟩
  rw [uh HDX, uh HNE]
  refine congrArg (fun z : Int => Value.tuple #[_, Value.int .i64 z, Value.bool true]) ?_; omega
theorem decS_any (a : Option Addr) (len cap : Nat) (ns : List Int) (i : Int) (w : World) (hl : ns.length = len) (hm : len ≤ 1099511627776) (hr : RdN w a ns) :
  Calls Tryz.prog 23 #[.slice a len cap, .int .i64 i] w fun e w' => e = .returned (decV ns i) ∧ Below w.heap.size w w' := by
 cases h : decIn ns i
 · exact decS_out a len cap ns i w hl hm hr h
 ·
  unfold decIn inB at h
  simp only [Bool.and_eq_true, decide_eq_true_eq] at h
  obtain ⟨⟨h1, h2⟩, h3, h4⟩ := h
  obtain ⟨p, rfl⟩ := Int.eq_ofNat_of_zero_le h1
  rw [Int.toNat_natCast] at h3 h4
  obtain ⟨q, hq⟩ := Int.eq_ofNat_of_zero_le h3
  rcases hr with h0 | ⟨b, off, rfl, hb, hc⟩
  · rw [h0] at h2; simp at h2; omega
  obtain ⟨op, sm, sr, dm, dr, x, hD, ho1, ho2, hs, hd⟩ := dOp_form (q : Int) (by omega) (by omega)
  by_cases h6 : op ≤ 6
  ·
   cases hsX : Od.hasX ⟨sm, sr, 0⟩
   ·
    cases hdX : Od.hasX ⟨dm, dr, 0⟩
    · exact decS_FF b off len cap ns p q op sm sr dm dr x w hl hm hb hc (by omega) hq (by omega) hD ⟨ho1, ho2⟩ h6 hsX (by omega) hdX
    · exact decS_FT b off len cap ns p q op sm sr dm dr x w hl hm hb hc (by omega) hq (by omega) hD ⟨ho1, ho2⟩ h6 hsX (by omega) hdX
   ·
    cases hdX : Od.hasX ⟨dm, dr, 0⟩
    · exact decS_TF b off len cap ns p q op sm sr dm dr x w hl hm hb hc (by omega) hq (by omega) hD ⟨ho1, ho2⟩ h6 hsX (by omega) hdX
    · exact decS_TT b off len cap ns p q op sm sr dm dr x w hl hm hb hc (by omega) hq (by omega) hD ⟨ho1, ho2⟩ h6 hsX (by omega) hdX
  ·
   by_cases h15 : op ≤ 15
   ·
    cases hdX : Od.hasX ⟨dm, dr, 0⟩
    · exact decS_NF b off len cap ns p q op sm sr dm dr x w hl hm hb hc (by omega) hq (by omega) hD ⟨ho1, ho2⟩ (by omega) (hs (by omega)) h15 hdX
    · exact decS_NT b off len cap ns p q op sm sr dm dr x w hl hm hb hc (by omega) hq (by omega) hD ⟨ho1, ho2⟩ (by omega) (hs (by omega)) h15 hdX
   · exact decS_NN b off len cap ns p q op sm sr dm dr x w hl hm hb hc (by omega) hq (by omega) hD ⟨ho1, ho2⟩ (by omega) (hs (by omega)) (by omega) (hd (by omega))
end Go.Proofs.YtboedaofbchdkaaGreatDoor
