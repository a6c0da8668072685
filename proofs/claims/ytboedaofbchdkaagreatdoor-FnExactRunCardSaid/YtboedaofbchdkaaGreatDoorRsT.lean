/- Contracts over this seat's translation, laid together; conditions stand as hypotheses of each. -/
import Derived.Test.YtboedaofbchdkaaGreatDoorRsS
namespace Go.Proofs.YtboedaofbchdkaaGreatDoor
open Go.ChangeShapes Go.WideShapes Go.ChangeAt Go.RowKit
set_option maxHeartbeats 16000000
set_option linter.unusedVariables false
set_option linter.unusedSimpArgs false
theorem decI_out (a : Option Addr) (len cap : Nat) (ns : List Int) (i : Int) (w : World) (hl : ns.length = len) (hm : len ≤ 1099511627776) (h : i < 0 ∨ (len : Int) ≤ i) :
  Calls Tryz.prog 57 #[.slice a len cap, .int .i64 i] w fun e w' => e = .returned (decV ns i) ∧ Below w.heap.size w w' := by
 have Z := hide (rz_new w)
 have HNO := hide (decOk_out (ns := ns) (i := i) (by unfold decIn; rw [inB_fQ _ _ _ (by omega)]; rfl))
 by_cases h1 : i < 0
 ·
  go_enter Tryz.func57, Tryz.ntmps57
  go_wp2
  refine bodyPost_ret (results_row3 (P := Tryz.prog) rfl _ _ w.heap.size 48 (cs8 [0, 0, 0, 0, 0, 0, 0, 0]) (0, 0) _ rfl (row8_heap (uh Z).row) Tryz.underlying48 rfl (by kernel_rfl)) rfl ?_
  exact ⟨congrArg Ending.returned (decV_no (uh HNO)), (uh Z).bel⟩
 ·
  go_enter Tryz.func57, Tryz.ntmps57
  go_wp2
  refine bodyPost_ret (results_row3 (P := Tryz.prog) rfl _ _ w.heap.size 48 (cs8 [0, 0, 0, 0, 0, 0, 0, 0]) (0, 0) _ rfl (row8_heap (uh Z).row) Tryz.underlying48 rfl (by kernel_rfl)) rfl ?_
  exact ⟨congrArg Ending.returned (decV_no (uh HNO)), (uh Z).bel⟩
set_option maxRecDepth 100000 in
theorem decI_none (b off len cap : Nat) (ns : List Int) (p : Nat) (n : Int) (w : World) (ht : Tab w) (hl : ns.length = len) (hm : len ≤ 1099511627776) (hb : b < w.heap.size) (hc : ∀ i, i < ns.length → w.cell? ⟨b, off + i, none⟩ = some (.int .i64 (nAt ns i)))
  (hp : p < len) (hn : nAt ns p = n) (hn2 : n ≤ 9223372036854775807) (op sm sr dm dr x : Int) (hD : dI n = ⟨op, ⟨sm, sr, 0⟩, ⟨dm, dr, 0⟩, x⟩) (hok : okD n = false) (hno : decOk ns (p : Int) = false) :
  Calls Tryz.prog 57 #[.slice (some ⟨b, off, none⟩) len cap, .int .i64 (p : Int)] w fun e w' => e = .returned (decV ns (p : Int)) ∧ Below w.heap.size w w' := by
 have Z0 := hide (rz_new w)
 have hc0 : ∀ o, (w.alloc o).cell? ⟨b, off + p, none⟩ = some (.int .i64 n) := fun o => by rw [← hn]; exact alloc_cell (hc p (by omega)) o
 have CL := hide (fun (w' : World) (hbel : Below w.heap.size w w') i (hi : i < len) => (hbel.cell (p := ⟨b, off + i, none⟩) hb).trans (hc i (by omega)))
 have IN := hide (fun (w' : World) (hbel : Below w.heap.size w w') => insI_any n hn2 w' (ht.later hbel))
 rw [hok] at IN
 have HNO := hide hno
 rw [hD] at IN
 have WO := hide (fun w => wordsI_anyQ ⟨op, ⟨sm, sr, 0⟩, ⟨dm, dr, 0⟩, x⟩ w)
 generalize hwd : Is.words ⟨op, ⟨sm, sr, 0⟩, ⟨dm, dr, 0⟩, x⟩ = wd at WO
 unfold Is.v at IN WO
 simp only at IN WO
 clear hD hc hok hno hn hwd
 go_enter Tryz.func57, Tryz.ntmps57
 go_wp2_with fail
 refine (uh IN _ (uh Z0).bel).mono ?_
 rintro e w1 ⟨rfl, hb1⟩
 have Z1 := hide ((uh Z0).later hb1)
 have D1 := hide (dz_new (uh Z1) [op, sm, sr, 0, dm, dr, 0, x])
 clear hb1 Z0 IN Z1
 go_wp2_with fail
 refine (uh WO _).mono ?_
 rintro e w2 ⟨rfl, hb2⟩
 have D2 := hide ((uh D1).later hb2)
 clear hb2 D1 WO
 have zz := (uh D2).rz
 have c0 : w2.cell? ⟨w.heap.size, 0, none⟩ = some (.int .i64 0) := zz.row.cell (i := 0) (by omega)
 have f0 := zz.row.frozen 0
 have c1 : w2.cell? ⟨w.heap.size, 1, none⟩ = some (.int .i64 0) := zz.row.cell (i := 1) (by omega)
 have f1 := zz.row.frozen 1
 have c2 : w2.cell? ⟨w.heap.size, 2, none⟩ = some (.int .i64 0) := zz.row.cell (i := 2) (by omega)
 have f2 := zz.row.frozen 2
 have c3 : w2.cell? ⟨w.heap.size, 3, none⟩ = some (.int .i64 0) := zz.row.cell (i := 3) (by omega)
 have f3 := zz.row.frozen 3
 have c4 : w2.cell? ⟨w.heap.size, 4, none⟩ = some (.int .i64 0) := zz.row.cell (i := 4) (by omega)
 have f4 := zz.row.frozen 4
 have c5 : w2.cell? ⟨w.heap.size, 5, none⟩ = some (.int .i64 0) := zz.row.cell (i := 5) (by omega)
 have f5 := zz.row.frozen 5
 have c6 : w2.cell? ⟨w.heap.size, 6, none⟩ = some (.int .i64 0) := zz.row.cell (i := 6) (by omega)
 have f6 := zz.row.frozen 6
 have c7 : w2.cell? ⟨w.heap.size, 7, none⟩ = some (.int .i64 0) := zz.row.cell (i := 7) (by omega)
 have f7 := zz.row.frozen 7
 clear zz
 go_wp2
 refine bodyPost_ret (results_row3 (P := Tryz.prog) rfl _ _ w.heap.size 48 (cs8 [0, 0, 0, 0, 0, 0, 0, 0]) (0, 0) _ rfl (row8_heap (((uh D2).rz).put (0) (0) (0) (0) (0) (0) (0) (0)).row) Tryz.underlying48 rfl (by kernel_rfl)) rfl ?_
 refine ⟨congrArg Ending.returned (decV_no (uh HNO)), (((uh D2).rz).put (0) (0) (0) (0) (0) (0) (0) (0)).bel⟩
set_option maxRecDepth 100000 in
theorem decI_short (b off len cap : Nat) (ns : List Int) (p : Nat) (n : Int) (w : World) (ht : Tab w) (hl : ns.length = len) (hm : len ≤ 1099511627776) (hb : b < w.heap.size) (hc : ∀ i, i < ns.length → w.cell? ⟨b, off + i, none⟩ = some (.int .i64 (nAt ns i)))
  (hp : p < len) (hn : nAt ns p = n) (hn2 : n ≤ 9223372036854775807) (op sm sr dm dr x : Int) (hD : dI n = ⟨op, ⟨sm, sr, 0⟩, ⟨dm, dr, 0⟩, x⟩) (hok : okD n = true) (hsh : (len : Int) - p < Is.words ⟨op, ⟨sm, sr, 0⟩, ⟨dm, dr, 0⟩, x⟩) (hno : decOk ns (p : Int) = false) :
  Calls Tryz.prog 57 #[.slice (some ⟨b, off, none⟩) len cap, .int .i64 (p : Int)] w fun e w' => e = .returned (decV ns (p : Int)) ∧ Below w.heap.size w w' := by
 have Z0 := hide (rz_new w)
 have hc0 : ∀ o, (w.alloc o).cell? ⟨b, off + p, none⟩ = some (.int .i64 n) := fun o => by rw [← hn]; exact alloc_cell (hc p (by omega)) o
 have CL := hide (fun (w' : World) (hbel : Below w.heap.size w w') i (hi : i < len) => (hbel.cell (p := ⟨b, off + i, none⟩) hb).trans (hc i (by omega)))
 have IN := hide (fun (w' : World) (hbel : Below w.heap.size w w') => insI_any n hn2 w' (ht.later hbel))
 rw [hok] at IN
 have HNO := hide hno
 rw [hD] at IN
 have WO := hide (fun w => wordsI_anyQ ⟨op, ⟨sm, sr, 0⟩, ⟨dm, dr, 0⟩, x⟩ w)
 generalize hwd : Is.words ⟨op, ⟨sm, sr, 0⟩, ⟨dm, dr, 0⟩, x⟩ = wd at WO
 unfold Is.v at IN WO
 simp only at IN WO
 rw [hwd] at hsh
 clear hD hc hok hno hn hwd
 go_enter Tryz.func57, Tryz.ntmps57
 go_wp2_with fail
 refine (uh IN _ (uh Z0).bel).mono ?_
 rintro e w1 ⟨rfl, hb1⟩
 have Z1 := hide ((uh Z0).later hb1)
 have D1 := hide (dz_new (uh Z1) [op, sm, sr, 0, dm, dr, 0, x])
 clear hb1 Z0 IN Z1
 go_wp2_with fail
 refine (uh WO _).mono ?_
 rintro e w2 ⟨rfl, hb2⟩
 have D2 := hide ((uh D1).later hb2)
 clear hb2 D1 WO
 have zz := (uh D2).rz
 have c0 : w2.cell? ⟨w.heap.size, 0, none⟩ = some (.int .i64 0) := zz.row.cell (i := 0) (by omega)
 have f0 := zz.row.frozen 0
 have c1 : w2.cell? ⟨w.heap.size, 1, none⟩ = some (.int .i64 0) := zz.row.cell (i := 1) (by omega)
 have f1 := zz.row.frozen 1
 have c2 : w2.cell? ⟨w.heap.size, 2, none⟩ = some (.int .i64 0) := zz.row.cell (i := 2) (by omega)
 have f2 := zz.row.frozen 2
 have c3 : w2.cell? ⟨w.heap.size, 3, none⟩ = some (.int .i64 0) := zz.row.cell (i := 3) (by omega)
 have f3 := zz.row.frozen 3
 have c4 : w2.cell? ⟨w.heap.size, 4, none⟩ = some (.int .i64 0) := zz.row.cell (i := 4) (by omega)
 have f4 := zz.row.frozen 4
 have c5 : w2.cell? ⟨w.heap.size, 5, none⟩ = some (.int .i64 0) := zz.row.cell (i := 5) (by omega)
 have f5 := zz.row.frozen 5
 have c6 : w2.cell? ⟨w.heap.size, 6, none⟩ = some (.int .i64 0) := zz.row.cell (i := 6) (by omega)
 have f6 := zz.row.frozen 6
 have c7 : w2.cell? ⟨w.heap.size, 7, none⟩ = some (.int .i64 0) := zz.row.cell (i := 7) (by omega)
 have f7 := zz.row.frozen 7
 clear zz
 go_wp2
 refine bodyPost_ret (results_row3 (P := Tryz.prog) rfl _ _ w.heap.size 48 (cs8 [0, 0, 0, 0, 0, 0, 0, 0]) (0, 0) _ rfl (row8_heap (((uh D2).rz).put (0) (0) (0) (0) (0) (0) (0) (0)).row) Tryz.underlying48 rfl (by kernel_rfl)) rfl ?_
 refine ⟨congrArg Ending.returned (decV_no (uh HNO)), (((uh D2).rz).put (0) (0) (0) (0) (0) (0) (0) (0)).bel⟩
set_option maxRecDepth 100000 in
theorem decI_in (b off len cap : Nat) (ns : List Int) (p : Nat) (n : Int) (w : World) (ht : Tab w) (hl : ns.length = len) (hm : len ≤ 1099511627776) (hb : b < w.heap.size) (hc : ∀ i, i < ns.length → w.cell? ⟨b, off + i, none⟩ = some (.int .i64 (nAt ns i)))
  (hp : p < len) (hn : nAt ns p = n) (hn2 : n ≤ 9223372036854775807) (op sm sr dm dr x : Int) (sX dX : Bool) (sv dv : Int) (hD : dI n = ⟨op, ⟨sm, sr, 0⟩, ⟨dm, dr, 0⟩, x⟩) (hok : okD n = true)
  (hsX : Od.hasX ⟨sm, sr, 0⟩ = sX) (hdX : Od.hasX ⟨dm, dr, 0⟩ = dX) (hsv : sv = if sX = true then nAt ns (p + 1) else 0) (hdv : dv = if dX = true then nAt ns (p + 1 + oneX sX) else 0)
  (hwn : Is.words ⟨op, ⟨sm, sr, 0⟩, ⟨dm, dr, 0⟩, x⟩ = 1 + (oneX sX + oneX dX : Nat)) (hfit : p + 1 + (oneX sX + oneX dX) ≤ len) (hX : decX ns (p : Int) = ⟨op, ⟨sm, sr, sv⟩, ⟨dm, dr, dv⟩, x⟩) (hN : (dOp (nAt ns (p : Int).toNat)).need = oneX sX + oneX dX) (hO : decOk ns (p : Int) = Is.ok ⟨op, ⟨sm, sr, sv⟩, ⟨dm, dr, dv⟩, x⟩) :
  Calls Tryz.prog 57 #[.slice (some ⟨b, off, none⟩) len cap, .int .i64 (p : Int)] w fun e w' => e = .returned (decV ns (p : Int)) ∧ Below w.heap.size w w' := by
 have Z0 := hide (rz_new w)
 have hc0 : ∀ o, (w.alloc o).cell? ⟨b, off + p, none⟩ = some (.int .i64 n) := fun o => by rw [← hn]; exact alloc_cell (hc p (by omega)) o
 have CL := hide (fun (w' : World) (hbel : Below w.heap.size w w') i (hi : i < len) => (hbel.cell (p := ⟨b, off + i, none⟩) hb).trans (hc i (by omega)))
 have IN := hide (fun (w' : World) (hbel : Below w.heap.size w w') => insI_any n hn2 w' (ht.later hbel))
 rw [hok] at IN
 rw [hD] at IN
 have WO := hide (fun w => wordsI_anyQ ⟨op, ⟨sm, sr, 0⟩, ⟨dm, dr, 0⟩, x⟩ w)
 generalize hwd : Is.words ⟨op, ⟨sm, sr, 0⟩, ⟨dm, dr, 0⟩, x⟩ = wd at WO
 unfold Is.v at IN WO
 simp only at IN WO
 rw [hwd] at hwn
 have hns : ¬ (len : Int) - p < wd := by omega
 have FS := hide (fun w => hasXI_anyQ ⟨sm, sr, 0⟩ w)
 have FD := hide (fun w => hasXI_anyQ ⟨dm, dr, 0⟩ w)
 rw [hsX] at FS
 rw [hdX] at FD
 unfold Od.v at FS FD
 simp only at FS FD
 have FO := hide (fun w => insOkI_any ⟨op, ⟨sm, sr, sv⟩, ⟨dm, dr, dv⟩, x⟩ w)
 unfold Is.v at FO
 simp only at FO
 have HSV := hide hsv
 have HDV := hide hdv
 have HX := hide hX
 have HNN := hide hN
 have HO := hide hO
 have HWN := hide hwn
 clear hD hc hok hn hwd hsX hdX hsv hdv hX hN hO hwn
 go_enter Tryz.func57, Tryz.ntmps57
 go_wp2_with fail
 refine (uh IN _ (uh Z0).bel).mono ?_
 rintro e w1 ⟨rfl, hb1⟩
 have Z1 := hide ((uh Z0).later hb1)
 have D1 := hide (dz_new (uh Z1) [op, sm, sr, 0, dm, dr, 0, x])
 clear hb1 Z0 IN Z1
 go_wp2_with fail
 refine (uh WO _).mono ?_
 rintro e w2 ⟨rfl, hb2⟩
 have D2 := hide ((uh D1).later hb2)
 clear hb2 D1 WO
 have dd := uh D2
 have x0 : w2.cell? ⟨w1.heap.size, 0, none⟩ = some (.int .i64 (op)) := dd.row.cell (i := 0) (by omega)
 have g0 := dd.row.frozen 0
 have x1 : w2.cell? ⟨w1.heap.size, 1, none⟩ = some (.int .i64 (sm)) := dd.row.cell (i := 1) (by omega)
 have g1 := dd.row.frozen 1
 have x2 : w2.cell? ⟨w1.heap.size, 2, none⟩ = some (.int .i64 (sr)) := dd.row.cell (i := 2) (by omega)
 have g2 := dd.row.frozen 2
 have x3 : w2.cell? ⟨w1.heap.size, 3, none⟩ = some (.int .i64 (0)) := dd.row.cell (i := 3) (by omega)
 have g3 := dd.row.frozen 3
 have x4 : w2.cell? ⟨w1.heap.size, 4, none⟩ = some (.int .i64 (dm)) := dd.row.cell (i := 4) (by omega)
 have g4 := dd.row.frozen 4
 have x5 : w2.cell? ⟨w1.heap.size, 5, none⟩ = some (.int .i64 (dr)) := dd.row.cell (i := 5) (by omega)
 have g5 := dd.row.frozen 5
 have x6 : w2.cell? ⟨w1.heap.size, 6, none⟩ = some (.int .i64 (0)) := dd.row.cell (i := 6) (by omega)
 have g6 := dd.row.frozen 6
 have x7 : w2.cell? ⟨w1.heap.size, 7, none⟩ = some (.int .i64 (x)) := dd.row.cell (i := 7) (by omega)
 have g7 := dd.row.frozen 7
 clear dd
 go_wp2_with fail
 go_loopw [10, 48] (fun v10 v48 wr => ∃ j t : Nat, j ≤ 2 ∧ v48 = .int .i64 j ∧ v10 = .int .i64 t ∧ t = p + 1 + (if 1 ≤ j then oneX sX else 0) + (if 2 ≤ j then oneX dX else 0) ∧ Dz w wr w1.heap.size [op, sm, sr, (if 1 ≤ j then sv else 0), dm, dr, (if 2 ≤ j then dv else 0), x]) (fun _ v48 _ => 2 - (intOf v48).toNat)
 case atStart => exact ⟨0, p + 1, by omega, rfl, by go_num, by simp, by simpa using uh D2⟩
 case round =>
  clear D2 x0 g0 x1 g1 x2 g2 x3 g3 x4 g4 x5 g5 x6 g6 x7 g7
  obtain ⟨j, t, hj, rfl, rfl, htt, hdz⟩ := hrel
  obtain rfl | rfl | rfl : j = 0 ∨ j = 1 ∨ j = 2 := by omega
  ·
   simp only [if_pos, if_neg, Nat.le_refl, show ¬ (1 : Nat) ≤ 0 by omega, show ¬ (2 : Nat) ≤ 0 by omega, show ¬ (2 : Nat) ≤ 1 by omega, if_false, if_true, Nat.add_zero] at htt hdz
   have Dr := hide hdz
   have HTT := hide htt
   clear hdz htt
   have dd := uh Dr
   have x0 : wr.cell? ⟨w1.heap.size, 0, none⟩ = some (.int .i64 (op)) := dd.row.cell (i := 0) (by omega)
   have g0 := dd.row.frozen 0
   have x1 : wr.cell? ⟨w1.heap.size, 1, none⟩ = some (.int .i64 (sm)) := dd.row.cell (i := 1) (by omega)
   have g1 := dd.row.frozen 1
   have x2 : wr.cell? ⟨w1.heap.size, 2, none⟩ = some (.int .i64 (sr)) := dd.row.cell (i := 2) (by omega)
   have g2 := dd.row.frozen 2
   have x3 : wr.cell? ⟨w1.heap.size, 3, none⟩ = some (.int .i64 (0)) := dd.row.cell (i := 3) (by omega)
   have g3 := dd.row.frozen 3
   have x4 : wr.cell? ⟨w1.heap.size, 4, none⟩ = some (.int .i64 (dm)) := dd.row.cell (i := 4) (by omega)
   have g4 := dd.row.frozen 4
   have x5 : wr.cell? ⟨w1.heap.size, 5, none⟩ = some (.int .i64 (dr)) := dd.row.cell (i := 5) (by omega)
   have g5 := dd.row.frozen 5
   have x6 : wr.cell? ⟨w1.heap.size, 6, none⟩ = some (.int .i64 (0)) := dd.row.cell (i := 6) (by omega)
   have g6 := dd.row.frozen 6
   have x7 : wr.cell? ⟨w1.heap.size, 7, none⟩ = some (.int .i64 (x)) := dd.row.cell (i := 7) (by omega)
   have g7 := dd.row.frozen 7
   clear dd
   go_wp2_with (refine wpList_index_at rfl 92 _ _ rfl #[.pointer (some ⟨w1.heap.size, 1, none⟩), .pointer (some ⟨w1.heap.size, 4, none⟩)] 0 (.pointer (some ⟨w1.heap.size, 1, none⟩)) rfl rfl (fun w => by kernel_rfl) ?_)
   refine (uh FS _).mono ?_
   rintro e w3 ⟨rfl, hb3⟩
   have D3 := hide ((uh Dr).later hb3)
   clear hb3 Dr x0 g0 x1 g1 x2 g2 x3 g3 x4 g4 x5 g5 x6 g6 x7 g7
   have HV := uh HSV
   cases sX
   ·
    simp only [Bool.false_eq_true, if_false] at HV
    have D4 := hide (show Dz w w3 w1.heap.size [op, sm, sr, sv, dm, dr, 0, x] by rw [HV]; exact uh D3)
    clear HV
    go_wp2
    go_roundw
    case rel => exact ⟨1, t, by omega, by go_num, rfl, by have := uh HTT; simp [oneX] at this ⊢; omega, by simpa using uh D4⟩
    case measure => simp [intOf]
   ·
    simp only [if_true] at HV
    have htl : t < len := by have := uh HTT; simp [oneX] at hfit this; omega
    have hk := uh CL w3 (uh D3).rz.bel t htl
    have dd := uh D3
    have x0 : w3.cell? ⟨w1.heap.size, 0, none⟩ = some (.int .i64 (op)) := dd.row.cell (i := 0) (by omega)
    have g0 := dd.row.frozen 0
    have x1 : w3.cell? ⟨w1.heap.size, 1, none⟩ = some (.int .i64 (sm)) := dd.row.cell (i := 1) (by omega)
    have g1 := dd.row.frozen 1
    have x2 : w3.cell? ⟨w1.heap.size, 2, none⟩ = some (.int .i64 (sr)) := dd.row.cell (i := 2) (by omega)
    have g2 := dd.row.frozen 2
    have x3 : w3.cell? ⟨w1.heap.size, 3, none⟩ = some (.int .i64 (0)) := dd.row.cell (i := 3) (by omega)
    have g3 := dd.row.frozen 3
    have x4 : w3.cell? ⟨w1.heap.size, 4, none⟩ = some (.int .i64 (dm)) := dd.row.cell (i := 4) (by omega)
    have g4 := dd.row.frozen 4
    have x5 : w3.cell? ⟨w1.heap.size, 5, none⟩ = some (.int .i64 (dr)) := dd.row.cell (i := 5) (by omega)
    have g5 := dd.row.frozen 5
    have x6 : w3.cell? ⟨w1.heap.size, 6, none⟩ = some (.int .i64 (0)) := dd.row.cell (i := 6) (by omega)
    have g6 := dd.row.frozen 6
    have x7 : w3.cell? ⟨w1.heap.size, 7, none⟩ = some (.int .i64 (x)) := dd.row.cell (i := 7) (by omega)
    have g7 := dd.row.frozen 7
    clear dd
    have D4 := hide (show Dz w (w3.setCell ⟨w1.heap.size, 3, none⟩ (.int .i64 (nAt ns t))) w1.heap.size [op, sm, sr, sv, dm, dr, 0, x] from by
     rw [HV, ← uh HTT]
     exact (uh D3).set 3 (nAt ns t) _ (fun j hj => by rcases j with _ | _ | _ | _ | _ | _ | _ | _ | j <;> first | rfl | omega))
    clear HV
    go_wp2
    go_roundw
    case rel => exact ⟨1, t + 1, by omega, by go_num, by go_num, by have := uh HTT; simp [oneX] at this ⊢; omega, by simpa using uh D4⟩
    case measure => simp [intOf]
  ·
   simp only [if_pos, if_neg, Nat.le_refl, show ¬ (1 : Nat) ≤ 0 by omega, show ¬ (2 : Nat) ≤ 0 by omega, show ¬ (2 : Nat) ≤ 1 by omega, if_false, if_true, Nat.add_zero] at htt hdz
   have Dr := hide hdz
   have HTT := hide htt
   clear hdz htt
   have dd := uh Dr
   have x0 : wr.cell? ⟨w1.heap.size, 0, none⟩ = some (.int .i64 (op)) := dd.row.cell (i := 0) (by omega)
   have g0 := dd.row.frozen 0
   have x1 : wr.cell? ⟨w1.heap.size, 1, none⟩ = some (.int .i64 (sm)) := dd.row.cell (i := 1) (by omega)
   have g1 := dd.row.frozen 1
   have x2 : wr.cell? ⟨w1.heap.size, 2, none⟩ = some (.int .i64 (sr)) := dd.row.cell (i := 2) (by omega)
   have g2 := dd.row.frozen 2
   have x3 : wr.cell? ⟨w1.heap.size, 3, none⟩ = some (.int .i64 (sv)) := dd.row.cell (i := 3) (by omega)
   have g3 := dd.row.frozen 3
   have x4 : wr.cell? ⟨w1.heap.size, 4, none⟩ = some (.int .i64 (dm)) := dd.row.cell (i := 4) (by omega)
   have g4 := dd.row.frozen 4
   have x5 : wr.cell? ⟨w1.heap.size, 5, none⟩ = some (.int .i64 (dr)) := dd.row.cell (i := 5) (by omega)
   have g5 := dd.row.frozen 5
   have x6 : wr.cell? ⟨w1.heap.size, 6, none⟩ = some (.int .i64 (0)) := dd.row.cell (i := 6) (by omega)
   have g6 := dd.row.frozen 6
   have x7 : wr.cell? ⟨w1.heap.size, 7, none⟩ = some (.int .i64 (x)) := dd.row.cell (i := 7) (by omega)
   have g7 := dd.row.frozen 7
   clear dd
   go_wp2_with (refine wpList_index_at rfl 92 _ _ rfl #[.pointer (some ⟨w1.heap.size, 1, none⟩), .pointer (some ⟨w1.heap.size, 4, none⟩)] 1 (.pointer (some ⟨w1.heap.size, 4, none⟩)) rfl rfl (fun w => by kernel_rfl) ?_)
   refine (uh FD _).mono ?_
   rintro e w3 ⟨rfl, hb3⟩
   have D3 := hide ((uh Dr).later hb3)
   clear hb3 Dr x0 g0 x1 g1 x2 g2 x3 g3 x4 g4 x5 g5 x6 g6 x7 g7
   have HV := uh HDV
   cases dX
   ·
    simp only [Bool.false_eq_true, if_false] at HV
    have D4 := hide (show Dz w w3 w1.heap.size [op, sm, sr, sv, dm, dr, dv, x] by rw [HV]; exact uh D3)
    clear HV
    go_wp2
    go_roundw
    case rel => exact ⟨2, t, by omega, by go_num, rfl, by have := uh HTT; simp [oneX] at this ⊢; omega, by simpa using uh D4⟩
    case measure => simp [intOf]
   ·
    simp only [if_true] at HV
    have htl : t < len := by have := uh HTT; simp [oneX] at hfit this; omega
    have hk := uh CL w3 (uh D3).rz.bel t htl
    have dd := uh D3
    have x0 : w3.cell? ⟨w1.heap.size, 0, none⟩ = some (.int .i64 (op)) := dd.row.cell (i := 0) (by omega)
    have g0 := dd.row.frozen 0
    have x1 : w3.cell? ⟨w1.heap.size, 1, none⟩ = some (.int .i64 (sm)) := dd.row.cell (i := 1) (by omega)
    have g1 := dd.row.frozen 1
    have x2 : w3.cell? ⟨w1.heap.size, 2, none⟩ = some (.int .i64 (sr)) := dd.row.cell (i := 2) (by omega)
    have g2 := dd.row.frozen 2
    have x3 : w3.cell? ⟨w1.heap.size, 3, none⟩ = some (.int .i64 (sv)) := dd.row.cell (i := 3) (by omega)
    have g3 := dd.row.frozen 3
    have x4 : w3.cell? ⟨w1.heap.size, 4, none⟩ = some (.int .i64 (dm)) := dd.row.cell (i := 4) (by omega)
    have g4 := dd.row.frozen 4
    have x5 : w3.cell? ⟨w1.heap.size, 5, none⟩ = some (.int .i64 (dr)) := dd.row.cell (i := 5) (by omega)
    have g5 := dd.row.frozen 5
    have x6 : w3.cell? ⟨w1.heap.size, 6, none⟩ = some (.int .i64 (0)) := dd.row.cell (i := 6) (by omega)
    have g6 := dd.row.frozen 6
    have x7 : w3.cell? ⟨w1.heap.size, 7, none⟩ = some (.int .i64 (x)) := dd.row.cell (i := 7) (by omega)
    have g7 := dd.row.frozen 7
    clear dd
    have D4 := hide (show Dz w (w3.setCell ⟨w1.heap.size, 6, none⟩ (.int .i64 (nAt ns t))) w1.heap.size [op, sm, sr, sv, dm, dr, dv, x] from by
     rw [HV, ← uh HTT]
     exact (uh D3).set 6 (nAt ns t) _ (fun j hj => by rcases j with _ | _ | _ | _ | _ | _ | _ | _ | j <;> first | rfl | omega))
    clear HV
    go_wp2
    go_roundw
    case rel => exact ⟨2, t + 1, by omega, by go_num, by go_num, by have := uh HTT; simp [oneX] at this ⊢; omega, by simpa using uh D4⟩
    case measure => simp [intOf]
  ·
   simp only [show (1 : Nat) ≤ 2 by omega, Nat.le_refl, if_true] at htt hdz
   have Dr := hide hdz
   clear hdz
   have dd := uh Dr
   have x0 : wr.cell? ⟨w1.heap.size, 0, none⟩ = some (.int .i64 (op)) := dd.row.cell (i := 0) (by omega)
   have g0 := dd.row.frozen 0
   have x1 : wr.cell? ⟨w1.heap.size, 1, none⟩ = some (.int .i64 (sm)) := dd.row.cell (i := 1) (by omega)
   have g1 := dd.row.frozen 1
   have x2 : wr.cell? ⟨w1.heap.size, 2, none⟩ = some (.int .i64 (sr)) := dd.row.cell (i := 2) (by omega)
   have g2 := dd.row.frozen 2
   have x3 : wr.cell? ⟨w1.heap.size, 3, none⟩ = some (.int .i64 (sv)) := dd.row.cell (i := 3) (by omega)
   have g3 := dd.row.frozen 3
   have x4 : wr.cell? ⟨w1.heap.size, 4, none⟩ = some (.int .i64 (dm)) := dd.row.cell (i := 4) (by omega)
   have g4 := dd.row.frozen 4
   have x5 : wr.cell? ⟨w1.heap.size, 5, none⟩ = some (.int .i64 (dr)) := dd.row.cell (i := 5) (by omega)
   have g5 := dd.row.frozen 5
   have x6 : wr.cell? ⟨w1.heap.size, 6, none⟩ = some (.int .i64 (dv)) := dd.row.cell (i := 6) (by omega)
   have g6 := dd.row.frozen 6
   have x7 : wr.cell? ⟨w1.heap.size, 7, none⟩ = some (.int .i64 (x)) := dd.row.cell (i := 7) (by omega)
   have g7 := dd.row.frozen 7
   clear dd
   go_wp2_with fail
   refine (uh FO _).mono ?_
   rintro e w9 ⟨rfl, hb9⟩
   have D9 := hide ((uh Dr).later hb9)
   clear hb9 Dr x0 g0 x1 g1 x2 g2 x3 g3 x4 g4 x5 g5 x6 g6 x7 g7 FO
   have zz := (uh D9).rz
   have c0 : w9.cell? ⟨w.heap.size, 0, none⟩ = some (.int .i64 0) := zz.row.cell (i := 0) (by omega)
   have f0 := zz.row.frozen 0
   have c1 : w9.cell? ⟨w.heap.size, 1, none⟩ = some (.int .i64 0) := zz.row.cell (i := 1) (by omega)
   have f1 := zz.row.frozen 1
   have c2 : w9.cell? ⟨w.heap.size, 2, none⟩ = some (.int .i64 0) := zz.row.cell (i := 2) (by omega)
   have f2 := zz.row.frozen 2
   have c3 : w9.cell? ⟨w.heap.size, 3, none⟩ = some (.int .i64 0) := zz.row.cell (i := 3) (by omega)
   have f3 := zz.row.frozen 3
   have c4 : w9.cell? ⟨w.heap.size, 4, none⟩ = some (.int .i64 0) := zz.row.cell (i := 4) (by omega)
   have f4 := zz.row.frozen 4
   have c5 : w9.cell? ⟨w.heap.size, 5, none⟩ = some (.int .i64 0) := zz.row.cell (i := 5) (by omega)
   have f5 := zz.row.frozen 5
   have c6 : w9.cell? ⟨w.heap.size, 6, none⟩ = some (.int .i64 0) := zz.row.cell (i := 6) (by omega)
   have f6 := zz.row.frozen 6
   have c7 : w9.cell? ⟨w.heap.size, 7, none⟩ = some (.int .i64 0) := zz.row.cell (i := 7) (by omega)
   have f7 := zz.row.frozen 7
   clear zz
   have dd := uh D9
   have x0 : w9.cell? ⟨w1.heap.size, 0, none⟩ = some (.int .i64 (op)) := dd.row.cell (i := 0) (by omega)
   have g0 := dd.row.frozen 0
   have x1 : w9.cell? ⟨w1.heap.size, 1, none⟩ = some (.int .i64 (sm)) := dd.row.cell (i := 1) (by omega)
   have g1 := dd.row.frozen 1
   have x2 : w9.cell? ⟨w1.heap.size, 2, none⟩ = some (.int .i64 (sr)) := dd.row.cell (i := 2) (by omega)
   have g2 := dd.row.frozen 2
   have x3 : w9.cell? ⟨w1.heap.size, 3, none⟩ = some (.int .i64 (sv)) := dd.row.cell (i := 3) (by omega)
   have g3 := dd.row.frozen 3
   have x4 : w9.cell? ⟨w1.heap.size, 4, none⟩ = some (.int .i64 (dm)) := dd.row.cell (i := 4) (by omega)
   have g4 := dd.row.frozen 4
   have x5 : w9.cell? ⟨w1.heap.size, 5, none⟩ = some (.int .i64 (dr)) := dd.row.cell (i := 5) (by omega)
   have g5 := dd.row.frozen 5
   have x6 : w9.cell? ⟨w1.heap.size, 6, none⟩ = some (.int .i64 (dv)) := dd.row.cell (i := 6) (by omega)
   have g6 := dd.row.frozen 6
   have x7 : w9.cell? ⟨w1.heap.size, 7, none⟩ = some (.int .i64 (x)) := dd.row.cell (i := 7) (by omega)
   have g7 := dd.row.frozen 7
   clear dd
   have HO' := uh HO
   cases hok : Is.ok ⟨op, ⟨sm, sr, sv⟩, ⟨dm, dr, dv⟩, x⟩
   ·
    rw [hok] at HO'
    have HNO := hide HO'
    clear HO'
    go_wp2
    refine bodyPost_ret (results_row3 (P := Tryz.prog) rfl _ _ w.heap.size 48 (cs8 [0, 0, 0, 0, 0, 0, 0, 0]) (0, 0) _ rfl (row8_heap (((uh D9).rz).put (0) (0) (0) (0) (0) (0) (0) (0)).row) Tryz.underlying48 rfl (by kernel_rfl)) rfl ?_
    refine ⟨congrArg Ending.returned (decV_no (uh HNO)), (((uh D9).rz).put (0) (0) (0) (0) (0) (0) (0) (0)).bel⟩
   ·
    rw [hok] at HO'
    have HYES := hide HO'
    clear HO'
    go_wp2
    refine bodyPost_ret (results_row3 (P := Tryz.prog) rfl _ _ w.heap.size 48 (cs8 [op, sm, sr, sv, dm, dr, dv, x]) (0, 0) _ rfl (row8_heap (((uh D9).rz).put (op) (sm) (sr) (sv) (dm) (dr) (dv) (x)).row) Tryz.underlying48 rfl (by kernel_rfl)) rfl ?_
    refine ⟨congrArg Ending.returned (Eq.trans ?_ (decV_yes (uh HYES))), (((uh D9).rz).put (op) (sm) (sr) (sv) (dm) (dr) (dv) (x)).bel⟩
    rw [uh HX, uh HNN]
    refine congrArg (fun z : Int => Value.tuple #[_, Value.int .i64 z, Value.bool true]) ?_
    rw [uh HWN]
end Go.Proofs.YtboedaofbchdkaaGreatDoor
