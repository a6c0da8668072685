/- Contracts over this seat's translation, laid together; conditions stand as hypotheses of each. -/
import Derived.Test.YtboedaofbchdkaaDoorPsK
import Derived.Test.YtboedaofbchdkaaDoorPsL
import Derived.Test.YtboedaofbchdkaaDoorPsM

namespace Go.Proofs.YtboedaofbchdkaaDoor
open Go.ChangeShapes Go.WideShapes Go.ChangeAt Go.RowKit
set_option linter.unusedVariables false
set_option linter.unusedSimpArgs false
set_option maxHeartbeats 2000000 in
theorem decI_out (a : Option Addr) (len cap : Nat) (ns : List Int) (i : Int) (w : World) (hl : ns.length = len) (hm : len ≤ 1099511627776) (h : i < 0 ∨ (len : Int) ≤ i) :
    Calls Tryd.prog 52 #[.slice a len cap, .int .i64 i] w fun e w' => e = .returned (decV ns i) ∧ Below w.heap.size w w' := by
  have Z := hide (rz_new w)
  have HNO := hide (decOk_out (ns := ns) (i := i) (by unfold decIn; rw [inB_fQ _ _ _ (by omega)]; rfl))
  by_cases h1 : i < 0
  · go_enter Tryd.func52, Tryd.ntmps52
    go_wp2
    refine bodyPost_ret (results_row3 (P := Tryd.prog) rfl _ _ w.heap.size 30 (cs8 [0, 0, 0, 0, 0, 0, 0, 0]) (0, 0) _ rfl (row8_heap (unhide Z).row) Tryd.underlying30 rfl (by kernel_rfl)) rfl ?_
    exact ⟨congrArg Ending.returned (decV_no (unhide HNO)), (unhide Z).bel⟩
  · go_enter Tryd.func52, Tryd.ntmps52
    go_wp2
    refine bodyPost_ret (results_row3 (P := Tryd.prog) rfl _ _ w.heap.size 30 (cs8 [0, 0, 0, 0, 0, 0, 0, 0]) (0, 0) _ rfl (row8_heap (unhide Z).row) Tryd.underlying30 rfl (by kernel_rfl)) rfl ?_
    exact ⟨congrArg Ending.returned (decV_no (unhide HNO)), (unhide Z).bel⟩
set_option maxHeartbeats 2000000 in
set_option maxRecDepth 100000 in
theorem decI_none (b off len cap : Nat) (ns : List Int) (p : Nat) (n : Int) (w : World) (ht : Tab w) (hl : ns.length = len) (hm : len ≤ 1099511627776) (hb : b < w.heap.size) (hc : ∀ i, i < ns.length → w.cell? ⟨b, off + i, none⟩ = some (.int .i64 (nAt ns i)))
    (hp : p < len) (hn : nAt ns p = n) (hn2 : n ≤ 9223372036854775807) (op sm sr dm dr x : Int) (hD : dI n = ⟨op, ⟨sm, sr, 0⟩, ⟨dm, dr, 0⟩, x⟩) (hok : okD n = false) (hno : decOk ns (p : Int) = false) :
    Calls Tryd.prog 52 #[.slice (some ⟨b, off, none⟩) len cap, .int .i64 (p : Int)] w fun e w' => e = .returned (decV ns (p : Int)) ∧ Below w.heap.size w w' := by
  have Z0 := hide (rz_new w)
  have hc0 : ∀ o, (w.alloc o).cell? ⟨b, off + p, none⟩ = some (.int .i64 n) := fun o => by rw [← hn]; exact alloc_cell (hc p (by omega)) o
  have CL := hide (fun (w' : World) (hbel : Below w.heap.size w w') i (hi : i < len) => (hbel.cell (p := ⟨b, off + i, none⟩) hb).trans (hc i (by omega)))
  have IN := hide (fun (w' : World) (hbel : Below w.heap.size w w') => insI_any n hn2 w' (ht.later hbel))
  rw [hok] at IN
  have HNO := hide hno
  rw [hD] at IN
  have WO := hide (fun w => wordsI_anyQ ⟨op, ⟨sm, sr, 0⟩, ⟨dm, dr, 0⟩, x⟩ w)
  generalize hwd : Is.words ⟨op, ⟨sm, sr, 0⟩, ⟨dm, dr, 0⟩, x⟩ = wd at WO
  unfold Is.v at IN WO
  simp only at IN WO
  clear hD hc hok hno hn hwd
  go_enter Tryd.func52, Tryd.ntmps52
  go_wp2_with fail
  refine (unhide IN _ (unhide Z0).bel).mono ?_
  rintro e w1 ⟨rfl, hb1⟩
  have Z1 := hide ((unhide Z0).later hb1)
  have D1 := hide (dz_new (unhide Z1) [op, sm, sr, 0, dm, dr, 0, x])
  clear hb1 Z0 IN Z1
  go_wp2_with fail
  refine (unhide WO _).mono ?_
  rintro e w2 ⟨rfl, hb2⟩
  have D2 := hide ((unhide D1).later hb2)
  clear hb2 D1 WO
  have zz := (unhide D2).rz
  have c0 : w2.cell? ⟨w.heap.size, 0, none⟩ = some (.int .i64 0) := zz.row.cell (i := 0) (by omega)
  have f0 := zz.row.frozen 0
  have c1 : w2.cell? ⟨w.heap.size, 1, none⟩ = some (.int .i64 0) := zz.row.cell (i := 1) (by omega)
  have f1 := zz.row.frozen 1
  have c2 : w2.cell? ⟨w.heap.size, 2, none⟩ = some (.int .i64 0) := zz.row.cell (i := 2) (by omega)
  have f2 := zz.row.frozen 2
  have c3 : w2.cell? ⟨w.heap.size, 3, none⟩ = some (.int .i64 0) := zz.row.cell (i := 3) (by omega)
  have f3 := zz.row.frozen 3
  have c4 : w2.cell? ⟨w.heap.size, 4, none⟩ = some (.int .i64 0) := zz.row.cell (i := 4) (by omega)
  have f4 := zz.row.frozen 4
  have c5 : w2.cell? ⟨w.heap.size, 5, none⟩ = some (.int .i64 0) := zz.row.cell (i := 5) (by omega)
  have f5 := zz.row.frozen 5
  have c6 : w2.cell? ⟨w.heap.size, 6, none⟩ = some (.int .i64 0) := zz.row.cell (i := 6) (by omega)
  have f6 := zz.row.frozen 6
  have c7 : w2.cell? ⟨w.heap.size, 7, none⟩ = some (.int .i64 0) := zz.row.cell (i := 7) (by omega)
  have f7 := zz.row.frozen 7
  clear zz
  go_wp2
  refine bodyPost_ret (results_row3 (P := Tryd.prog) rfl _ _ w.heap.size 30 (cs8 [0, 0, 0, 0, 0, 0, 0, 0]) (0, 0) _ rfl (row8_heap (((unhide D2).rz).put (0) (0) (0) (0) (0) (0) (0) (0)).row) Tryd.underlying30 rfl (by kernel_rfl)) rfl ?_
  refine ⟨congrArg Ending.returned (decV_no (unhide HNO)), (((unhide D2).rz).put (0) (0) (0) (0) (0) (0) (0) (0)).bel⟩
set_option maxHeartbeats 2000000 in
set_option maxRecDepth 100000 in
theorem decI_short (b off len cap : Nat) (ns : List Int) (p : Nat) (n : Int) (w : World) (ht : Tab w) (hl : ns.length = len) (hm : len ≤ 1099511627776) (hb : b < w.heap.size) (hc : ∀ i, i < ns.length → w.cell? ⟨b, off + i, none⟩ = some (.int .i64 (nAt ns i)))
    (hp : p < len) (hn : nAt ns p = n) (hn2 : n ≤ 9223372036854775807) (op sm sr dm dr x : Int) (hD : dI n = ⟨op, ⟨sm, sr, 0⟩, ⟨dm, dr, 0⟩, x⟩) (hok : okD n = true) (hsh : (len : Int) - p < Is.words ⟨op, ⟨sm, sr, 0⟩, ⟨dm, dr, 0⟩, x⟩) (hno : decOk ns (p : Int) = false) :
    Calls Tryd.prog 52 #[.slice (some ⟨b, off, none⟩) len cap, .int .i64 (p : Int)] w fun e w' => e = .returned (decV ns (p : Int)) ∧ Below w.heap.size w w' := by
  have Z0 := hide (rz_new w)
  have hc0 : ∀ o, (w.alloc o).cell? ⟨b, off + p, none⟩ = some (.int .i64 n) := fun o => by rw [← hn]; exact alloc_cell (hc p (by omega)) o
  have CL := hide (fun (w' : World) (hbel : Below w.heap.size w w') i (hi : i < len) => (hbel.cell (p := ⟨b, off + i, none⟩) hb).trans (hc i (by omega)))
  have IN := hide (fun (w' : World) (hbel : Below w.heap.size w w') => insI_any n hn2 w' (ht.later hbel))
  rw [hok] at IN
  have HNO := hide hno
  rw [hD] at IN
  have WO := hide (fun w => wordsI_anyQ ⟨op, ⟨sm, sr, 0⟩, ⟨dm, dr, 0⟩, x⟩ w)
  generalize hwd : Is.words ⟨op, ⟨sm, sr, 0⟩, ⟨dm, dr, 0⟩, x⟩ = wd at WO
  unfold Is.v at IN WO
  simp only at IN WO
  rw [hwd] at hsh
  clear hD hc hok hno hn hwd
  go_enter Tryd.func52, Tryd.ntmps52
  go_wp2_with fail
  refine (unhide IN _ (unhide Z0).bel).mono ?_
  rintro e w1 ⟨rfl, hb1⟩
  have Z1 := hide ((unhide Z0).later hb1)
  have D1 := hide (dz_new (unhide Z1) [op, sm, sr, 0, dm, dr, 0, x])
  clear hb1 Z0 IN Z1
  go_wp2_with fail
  refine (unhide WO _).mono ?_
  rintro e w2 ⟨rfl, hb2⟩
  have D2 := hide ((unhide D1).later hb2)
  clear hb2 D1 WO
  have zz := (unhide D2).rz
  have c0 : w2.cell? ⟨w.heap.size, 0, none⟩ = some (.int .i64 0) := zz.row.cell (i := 0) (by omega)
  have f0 := zz.row.frozen 0
  have c1 : w2.cell? ⟨w.heap.size, 1, none⟩ = some (.int .i64 0) := zz.row.cell (i := 1) (by omega)
  have f1 := zz.row.frozen 1
  have c2 : w2.cell? ⟨w.heap.size, 2, none⟩ = some (.int .i64 0) := zz.row.cell (i := 2) (by omega)
  have f2 := zz.row.frozen 2
  have c3 : w2.cell? ⟨w.heap.size, 3, none⟩ = some (.int .i64 0) := zz.row.cell (i := 3) (by omega)
  have f3 := zz.row.frozen 3
  have c4 : w2.cell? ⟨w.heap.size, 4, none⟩ = some (.int .i64 0) := zz.row.cell (i := 4) (by omega)
  have f4 := zz.row.frozen 4
  have c5 : w2.cell? ⟨w.heap.size, 5, none⟩ = some (.int .i64 0) := zz.row.cell (i := 5) (by omega)
  have f5 := zz.row.frozen 5
  have c6 : w2.cell? ⟨w.heap.size, 6, none⟩ = some (.int .i64 0) := zz.row.cell (i := 6) (by omega)
  have f6 := zz.row.frozen 6
  have c7 : w2.cell? ⟨w.heap.size, 7, none⟩ = some (.int .i64 0) := zz.row.cell (i := 7) (by omega)
  have f7 := zz.row.frozen 7
  clear zz
  go_wp2
  refine bodyPost_ret (results_row3 (P := Tryd.prog) rfl _ _ w.heap.size 30 (cs8 [0, 0, 0, 0, 0, 0, 0, 0]) (0, 0) _ rfl (row8_heap (((unhide D2).rz).put (0) (0) (0) (0) (0) (0) (0) (0)).row) Tryd.underlying30 rfl (by kernel_rfl)) rfl ?_
  refine ⟨congrArg Ending.returned (decV_no (unhide HNO)), (((unhide D2).rz).put (0) (0) (0) (0) (0) (0) (0) (0)).bel⟩
set_option maxHeartbeats 4000000 in
set_option maxRecDepth 100000 in
theorem decI_in (b off len cap : Nat) (ns : List Int) (p : Nat) (n : Int) (w : World) (ht : Tab w) (hl : ns.length = len) (hm : len ≤ 1099511627776) (hb : b < w.heap.size) (hc : ∀ i, i < ns.length → w.cell? ⟨b, off + i, none⟩ = some (.int .i64 (nAt ns i)))
    (hp : p < len) (hn : nAt ns p = n) (hn2 : n ≤ 9223372036854775807) (op sm sr dm dr x : Int) (sX dX : Bool) (sv dv : Int) (hD : dI n = ⟨op, ⟨sm, sr, 0⟩, ⟨dm, dr, 0⟩, x⟩) (hok : okD n = true)
    (hsX : Od.hasX ⟨sm, sr, 0⟩ = sX) (hdX : Od.hasX ⟨dm, dr, 0⟩ = dX) (hsv : sv = if sX = true then nAt ns (p + 1) else 0) (hdv : dv = if dX = true then nAt ns (p + 1 + oneX sX) else 0)
    (hwn : Is.words ⟨op, ⟨sm, sr, 0⟩, ⟨dm, dr, 0⟩, x⟩ = 1 + (oneX sX + oneX dX : Nat)) (hfit : p + 1 + (oneX sX + oneX dX) ≤ len) (hX : decX ns (p : Int) = ⟨op, ⟨sm, sr, sv⟩, ⟨dm, dr, dv⟩, x⟩) (hN : (dOp (nAt ns (p : Int).toNat)).need = oneX sX + oneX dX) (hO : decOk ns (p : Int) = Is.ok ⟨op, ⟨sm, sr, sv⟩, ⟨dm, dr, dv⟩, x⟩) :
    Calls Tryd.prog 52 #[.slice (some ⟨b, off, none⟩) len cap, .int .i64 (p : Int)] w fun e w' => e = .returned (decV ns (p : Int)) ∧ Below w.heap.size w w' := by
  have Z0 := hide (rz_new w)
  have hc0 : ∀ o, (w.alloc o).cell? ⟨b, off + p, none⟩ = some (.int .i64 n) := fun o => by rw [← hn]; exact alloc_cell (hc p (by omega)) o
  have CL := hide (fun (w' : World) (hbel : Below w.heap.size w w') i (hi : i < len) => (hbel.cell (p := ⟨b, off + i, none⟩) hb).trans (hc i (by omega)))
  have IN := hide (fun (w' : World) (hbel : Below w.heap.size w w') => insI_any n hn2 w' (ht.later hbel))
  rw [hok] at IN
  rw [hD] at IN
  have WO := hide (fun w => wordsI_anyQ ⟨op, ⟨sm, sr, 0⟩, ⟨dm, dr, 0⟩, x⟩ w)
  generalize hwd : Is.words ⟨op, ⟨sm, sr, 0⟩, ⟨dm, dr, 0⟩, x⟩ = wd at WO
  unfold Is.v at IN WO
  simp only at IN WO
  rw [hwd] at hwn
  have hns : ¬ (len : Int) - p < wd := by omega
  have FS := hide (fun w => hasXI_anyQ ⟨sm, sr, 0⟩ w)
  have FD := hide (fun w => hasXI_anyQ ⟨dm, dr, 0⟩ w)
  rw [hsX] at FS
  rw [hdX] at FD
  unfold Od.v at FS FD
  simp only at FS FD
  have FO := hide (fun w => insOkI_any ⟨op, ⟨sm, sr, sv⟩, ⟨dm, dr, dv⟩, x⟩ w)
  unfold Is.v at FO
  simp only at FO
  have HSV := hide hsv
  have HDV := hide hdv
  have HX := hide hX
  have HNN := hide hN
  have HO := hide hO
  have HWN := hide hwn
  clear hD hc hok hn hwd hsX hdX hsv hdv hX hN hO hwn
  go_enter Tryd.func52, Tryd.ntmps52
  go_wp2_with fail
  refine (unhide IN _ (unhide Z0).bel).mono ?_
  rintro e w1 ⟨rfl, hb1⟩
  have Z1 := hide ((unhide Z0).later hb1)
  have D1 := hide (dz_new (unhide Z1) [op, sm, sr, 0, dm, dr, 0, x])
  clear hb1 Z0 IN Z1
  go_wp2_with fail
  refine (unhide WO _).mono ?_
  rintro e w2 ⟨rfl, hb2⟩
  have D2 := hide ((unhide D1).later hb2)
  clear hb2 D1 WO
  have dd := unhide D2
  have x0 : w2.cell? ⟨w1.heap.size, 0, none⟩ = some (.int .i64 (op)) := dd.row.cell (i := 0) (by omega)
  have g0 := dd.row.frozen 0
  have x1 : w2.cell? ⟨w1.heap.size, 1, none⟩ = some (.int .i64 (sm)) := dd.row.cell (i := 1) (by omega)
  have g1 := dd.row.frozen 1
  have x2 : w2.cell? ⟨w1.heap.size, 2, none⟩ = some (.int .i64 (sr)) := dd.row.cell (i := 2) (by omega)
  have g2 := dd.row.frozen 2
  have x3 : w2.cell? ⟨w1.heap.size, 3, none⟩ = some (.int .i64 (0)) := dd.row.cell (i := 3) (by omega)
  have g3 := dd.row.frozen 3
  have x4 : w2.cell? ⟨w1.heap.size, 4, none⟩ = some (.int .i64 (dm)) := dd.row.cell (i := 4) (by omega)
  have g4 := dd.row.frozen 4
  have x5 : w2.cell? ⟨w1.heap.size, 5, none⟩ = some (.int .i64 (dr)) := dd.row.cell (i := 5) (by omega)
  have g5 := dd.row.frozen 5
  have x6 : w2.cell? ⟨w1.heap.size, 6, none⟩ = some (.int .i64 (0)) := dd.row.cell (i := 6) (by omega)
  have g6 := dd.row.frozen 6
  have x7 : w2.cell? ⟨w1.heap.size, 7, none⟩ = some (.int .i64 (x)) := dd.row.cell (i := 7) (by omega)
  have g7 := dd.row.frozen 7
  clear dd
  go_wp2_with fail
  go_loopw [10, 48] (fun v10 v48 wr => ∃ j t : Nat, j ≤ 2 ∧ v48 = .int .i64 j ∧ v10 = .int .i64 t ∧ t = p + 1 + (if 1 ≤ j then oneX sX else 0) + (if 2 ≤ j then oneX dX else 0) ∧ Dz w wr w1.heap.size [op, sm, sr, (if 1 ≤ j then sv else 0), dm, dr, (if 2 ≤ j then dv else 0), x]) (fun _ v48 _ => 2 - (intOf v48).toNat)
  case atStart => exact ⟨0, p + 1, by omega, rfl, by go_num, by simp, by simpa using unhide D2⟩
  case round =>
    clear D2 x0 g0 x1 g1 x2 g2 x3 g3 x4 g4 x5 g5 x6 g6 x7 g7
    obtain ⟨j, t, hj, rfl, rfl, htt, hdz⟩ := hrel
    obtain rfl | rfl | rfl : j = 0 ∨ j = 1 ∨ j = 2 := by omega
    · simp only [if_pos, if_neg, Nat.le_refl, show ¬ (1 : Nat) ≤ 0 by omega, show ¬ (2 : Nat) ≤ 0 by omega, show ¬ (2 : Nat) ≤ 1 by omega, if_false, if_true, Nat.add_zero] at htt hdz
      have Dr := hide hdz
      have HTT := hide htt
      clear hdz htt
      have dd := unhide Dr
      have x0 : wr.cell? ⟨w1.heap.size, 0, none⟩ = some (.int .i64 (op)) := dd.row.cell (i := 0) (by omega)
      have g0 := dd.row.frozen 0
      have x1 : wr.cell? ⟨w1.heap.size, 1, none⟩ = some (.int .i64 (sm)) := dd.row.cell (i := 1) (by omega)
      have g1 := dd.row.frozen 1
      have x2 : wr.cell? ⟨w1.heap.size, 2, none⟩ = some (.int .i64 (sr)) := dd.row.cell (i := 2) (by omega)
      have g2 := dd.row.frozen 2
      have x3 : wr.cell? ⟨w1.heap.size, 3, none⟩ = some (.int .i64 (0)) := dd.row.cell (i := 3) (by omega)
      have g3 := dd.row.frozen 3
      have x4 : wr.cell? ⟨w1.heap.size, 4, none⟩ = some (.int .i64 (dm)) := dd.row.cell (i := 4) (by omega)
      have g4 := dd.row.frozen 4
      have x5 : wr.cell? ⟨w1.heap.size, 5, none⟩ = some (.int .i64 (dr)) := dd.row.cell (i := 5) (by omega)
      have g5 := dd.row.frozen 5
      have x6 : wr.cell? ⟨w1.heap.size, 6, none⟩ = some (.int .i64 (0)) := dd.row.cell (i := 6) (by omega)
      have g6 := dd.row.frozen 6
      have x7 : wr.cell? ⟨w1.heap.size, 7, none⟩ = some (.int .i64 (x)) := dd.row.cell (i := 7) (by omega)
      have g7 := dd.row.frozen 7
      clear dd
      go_wp2_with (refine wpList_index_at rfl 107 _ _ rfl #[.pointer (some ⟨w1.heap.size, 1, none⟩), .pointer (some ⟨w1.heap.size, 4, none⟩)] 0 (.pointer (some ⟨w1.heap.size, 1, none⟩)) rfl rfl (fun w => by kernel_rfl) ?_)
      refine (unhide FS _).mono ?_
      rintro e w3 ⟨rfl, hb3⟩
      have D3 := hide ((unhide Dr).later hb3)
      clear hb3 Dr x0 g0 x1 g1 x2 g2 x3 g3 x4 g4 x5 g5 x6 g6 x7 g7
      have HV := unhide HSV
      cases sX
      · simp only [Bool.false_eq_true, if_false] at HV
        have D4 := hide (show Dz w w3 w1.heap.size [op, sm, sr, sv, dm, dr, 0, x] by rw [HV]; exact unhide D3)
        clear HV
        go_wp2
        go_roundw
        case rel => exact ⟨1, t, by omega, by go_num, rfl, by have := unhide HTT; simp [oneX] at this ⊢; omega, by simpa using unhide D4⟩
        case measure => simp [intOf]
      · simp only [if_true] at HV
        have htl : t < len := by have := unhide HTT; simp [oneX] at hfit this; omega
        have hk := unhide CL w3 (unhide D3).rz.bel t htl
        have dd := unhide D3
        have x0 : w3.cell? ⟨w1.heap.size, 0, none⟩ = some (.int .i64 (op)) := dd.row.cell (i := 0) (by omega)
        have g0 := dd.row.frozen 0
        have x1 : w3.cell? ⟨w1.heap.size, 1, none⟩ = some (.int .i64 (sm)) := dd.row.cell (i := 1) (by omega)
        have g1 := dd.row.frozen 1
        have x2 : w3.cell? ⟨w1.heap.size, 2, none⟩ = some (.int .i64 (sr)) := dd.row.cell (i := 2) (by omega)
        have g2 := dd.row.frozen 2
        have x3 : w3.cell? ⟨w1.heap.size, 3, none⟩ = some (.int .i64 (0)) := dd.row.cell (i := 3) (by omega)
        have g3 := dd.row.frozen 3
        have x4 : w3.cell? ⟨w1.heap.size, 4, none⟩ = some (.int .i64 (dm)) := dd.row.cell (i := 4) (by omega)
        have g4 := dd.row.frozen 4
        have x5 : w3.cell? ⟨w1.heap.size, 5, none⟩ = some (.int .i64 (dr)) := dd.row.cell (i := 5) (by omega)
        have g5 := dd.row.frozen 5
        have x6 : w3.cell? ⟨w1.heap.size, 6, none⟩ = some (.int .i64 (0)) := dd.row.cell (i := 6) (by omega)
        have g6 := dd.row.frozen 6
        have x7 : w3.cell? ⟨w1.heap.size, 7, none⟩ = some (.int .i64 (x)) := dd.row.cell (i := 7) (by omega)
        have g7 := dd.row.frozen 7
        clear dd
        have D4 := hide (show Dz w (w3.setCell ⟨w1.heap.size, 3, none⟩ (.int .i64 (nAt ns t))) w1.heap.size [op, sm, sr, sv, dm, dr, 0, x] from by
          rw [HV, ← unhide HTT]
          exact (unhide D3).set 3 (nAt ns t) _ (fun j hj => by rcases j with _ | _ | _ | _ | _ | _ | _ | _ | j <;> first | rfl | omega))
        clear HV
        go_wp2
        go_roundw
        case rel => exact ⟨1, t + 1, by omega, by go_num, by go_num, by have := unhide HTT; simp [oneX] at this ⊢; omega, by simpa using unhide D4⟩
        case measure => simp [intOf]
    · simp only [if_pos, if_neg, Nat.le_refl, show ¬ (1 : Nat) ≤ 0 by omega, show ¬ (2 : Nat) ≤ 0 by omega, show ¬ (2 : Nat) ≤ 1 by omega, if_false, if_true, Nat.add_zero] at htt hdz
      have Dr := hide hdz
      have HTT := hide htt
      clear hdz htt
      have dd := unhide Dr
      have x0 : wr.cell? ⟨w1.heap.size, 0, none⟩ = some (.int .i64 (op)) := dd.row.cell (i := 0) (by omega)
      have g0 := dd.row.frozen 0
      have x1 : wr.cell? ⟨w1.heap.size, 1, none⟩ = some (.int .i64 (sm)) := dd.row.cell (i := 1) (by omega)
      have g1 := dd.row.frozen 1
      have x2 : wr.cell? ⟨w1.heap.size, 2, none⟩ = some (.int .i64 (sr)) := dd.row.cell (i := 2) (by omega)
      have g2 := dd.row.frozen 2
      have x3 : wr.cell? ⟨w1.heap.size, 3, none⟩ = some (.int .i64 (sv)) := dd.row.cell (i := 3) (by omega)
      have g3 := dd.row.frozen 3
      have x4 : wr.cell? ⟨w1.heap.size, 4, none⟩ = some (.int .i64 (dm)) := dd.row.cell (i := 4) (by omega)
      have g4 := dd.row.frozen 4
      have x5 : wr.cell? ⟨w1.heap.size, 5, none⟩ = some (.int .i64 (dr)) := dd.row.cell (i := 5) (by omega)
      have g5 := dd.row.frozen 5
      have x6 : wr.cell? ⟨w1.heap.size, 6, none⟩ = some (.int .i64 (0)) := dd.row.cell (i := 6) (by omega)
      have g6 := dd.row.frozen 6
      have x7 : wr.cell? ⟨w1.heap.size, 7, none⟩ = some (.int .i64 (x)) := dd.row.cell (i := 7) (by omega)
      have g7 := dd.row.frozen 7
      clear dd
      go_wp2_with (refine wpList_index_at rfl 107 _ _ rfl #[.pointer (some ⟨w1.heap.size, 1, none⟩), .pointer (some ⟨w1.heap.size, 4, none⟩)] 1 (.pointer (some ⟨w1.heap.size, 4, none⟩)) rfl rfl (fun w => by kernel_rfl) ?_)
      refine (unhide FD _).mono ?_
      rintro e w3 ⟨rfl, hb3⟩
      have D3 := hide ((unhide Dr).later hb3)
      clear hb3 Dr x0 g0 x1 g1 x2 g2 x3 g3 x4 g4 x5 g5 x6 g6 x7 g7
      have HV := unhide HDV
      cases dX
      · simp only [Bool.false_eq_true, if_false] at HV
        have D4 := hide (show Dz w w3 w1.heap.size [op, sm, sr, sv, dm, dr, dv, x] by rw [HV]; exact unhide D3)
        clear HV
        go_wp2
        go_roundw
        case rel => exact ⟨2, t, by omega, by go_num, rfl, by have := unhide HTT; simp [oneX] at this ⊢; omega, by simpa using unhide D4⟩
        case measure => simp [intOf]
      · simp only [if_true] at HV
        have htl : t < len := by have := unhide HTT; simp [oneX] at hfit this; omega
        have hk := unhide CL w3 (unhide D3).rz.bel t htl
        have dd := unhide D3
        have x0 : w3.cell? ⟨w1.heap.size, 0, none⟩ = some (.int .i64 (op)) := dd.row.cell (i := 0) (by omega)
        have g0 := dd.row.frozen 0
        have x1 : w3.cell? ⟨w1.heap.size, 1, none⟩ = some (.int .i64 (sm)) := dd.row.cell (i := 1) (by omega)
        have g1 := dd.row.frozen 1
        have x2 : w3.cell? ⟨w1.heap.size, 2, none⟩ = some (.int .i64 (sr)) := dd.row.cell (i := 2) (by omega)
        have g2 := dd.row.frozen 2
        have x3 : w3.cell? ⟨w1.heap.size, 3, none⟩ = some (.int .i64 (sv)) := dd.row.cell (i := 3) (by omega)
        have g3 := dd.row.frozen 3
        have x4 : w3.cell? ⟨w1.heap.size, 4, none⟩ = some (.int .i64 (dm)) := dd.row.cell (i := 4) (by omega)
        have g4 := dd.row.frozen 4
        have x5 : w3.cell? ⟨w1.heap.size, 5, none⟩ = some (.int .i64 (dr)) := dd.row.cell (i := 5) (by omega)
        have g5 := dd.row.frozen 5
        have x6 : w3.cell? ⟨w1.heap.size, 6, none⟩ = some (.int .i64 (0)) := dd.row.cell (i := 6) (by omega)
        have g6 := dd.row.frozen 6
        have x7 : w3.cell? ⟨w1.heap.size, 7, none⟩ = some (.int .i64 (x)) := dd.row.cell (i := 7) (by omega)
        have g7 := dd.row.frozen 7
        clear dd
        have D4 := hide (show Dz w (w3.setCell ⟨w1.heap.size, 6, none⟩ (.int .i64 (nAt ns t))) w1.heap.size [op, sm, sr, sv, dm, dr, dv, x] from by
          rw [HV, ← unhide HTT]
          exact (unhide D3).set 6 (nAt ns t) _ (fun j hj => by rcases j with _ | _ | _ | _ | _ | _ | _ | _ | j <;> first | rfl | omega))
        clear HV
        go_wp2
        go_roundw
        case rel => exact ⟨2, t + 1, by omega, by go_num, by go_num, by have := unhide HTT; simp [oneX] at this ⊢; omega, by simpa using unhide D4⟩
        case measure => simp [intOf]
    · simp only [show (1 : Nat) ≤ 2 by omega, Nat.le_refl, if_true] at htt hdz
      have Dr := hide hdz
      clear hdz
      have dd := unhide Dr
      have x0 : wr.cell? ⟨w1.heap.size, 0, none⟩ = some (.int .i64 (op)) := dd.row.cell (i := 0) (by omega)
      have g0 := dd.row.frozen 0
      have x1 : wr.cell? ⟨w1.heap.size, 1, none⟩ = some (.int .i64 (sm)) := dd.row.cell (i := 1) (by omega)
      have g1 := dd.row.frozen 1
      have x2 : wr.cell? ⟨w1.heap.size, 2, none⟩ = some (.int .i64 (sr)) := dd.row.cell (i := 2) (by omega)
      have g2 := dd.row.frozen 2
      have x3 : wr.cell? ⟨w1.heap.size, 3, none⟩ = some (.int .i64 (sv)) := dd.row.cell (i := 3) (by omega)
      have g3 := dd.row.frozen 3
      have x4 : wr.cell? ⟨w1.heap.size, 4, none⟩ = some (.int .i64 (dm)) := dd.row.cell (i := 4) (by omega)
      have g4 := dd.row.frozen 4
      have x5 : wr.cell? ⟨w1.heap.size, 5, none⟩ = some (.int .i64 (dr)) := dd.row.cell (i := 5) (by omega)
      have g5 := dd.row.frozen 5
      have x6 : wr.cell? ⟨w1.heap.size, 6, none⟩ = some (.int .i64 (dv)) := dd.row.cell (i := 6) (by omega)
      have g6 := dd.row.frozen 6
      have x7 : wr.cell? ⟨w1.heap.size, 7, none⟩ = some (.int .i64 (x)) := dd.row.cell (i := 7) (by omega)
      have g7 := dd.row.frozen 7
      clear dd
      go_wp2_with fail
      refine (unhide FO _).mono ?_
      rintro e w9 ⟨rfl, hb9⟩
      have D9 := hide ((unhide Dr).later hb9)
      clear hb9 Dr x0 g0 x1 g1 x2 g2 x3 g3 x4 g4 x5 g5 x6 g6 x7 g7 FO
      have zz := (unhide D9).rz
      have c0 : w9.cell? ⟨w.heap.size, 0, none⟩ = some (.int .i64 0) := zz.row.cell (i := 0) (by omega)
      have f0 := zz.row.frozen 0
      have c1 : w9.cell? ⟨w.heap.size, 1, none⟩ = some (.int .i64 0) := zz.row.cell (i := 1) (by omega)
      have f1 := zz.row.frozen 1
      have c2 : w9.cell? ⟨w.heap.size, 2, none⟩ = some (.int .i64 0) := zz.row.cell (i := 2) (by omega)
      have f2 := zz.row.frozen 2
      have c3 : w9.cell? ⟨w.heap.size, 3, none⟩ = some (.int .i64 0) := zz.row.cell (i := 3) (by omega)
      have f3 := zz.row.frozen 3
      have c4 : w9.cell? ⟨w.heap.size, 4, none⟩ = some (.int .i64 0) := zz.row.cell (i := 4) (by omega)
      have f4 := zz.row.frozen 4
      have c5 : w9.cell? ⟨w.heap.size, 5, none⟩ = some (.int .i64 0) := zz.row.cell (i := 5) (by omega)
      have f5 := zz.row.frozen 5
      have c6 : w9.cell? ⟨w.heap.size, 6, none⟩ = some (.int .i64 0) := zz.row.cell (i := 6) (by omega)
      have f6 := zz.row.frozen 6
      have c7 : w9.cell? ⟨w.heap.size, 7, none⟩ = some (.int .i64 0) := zz.row.cell (i := 7) (by omega)
      have f7 := zz.row.frozen 7
      clear zz
      have dd := unhide D9
      have x0 : w9.cell? ⟨w1.heap.size, 0, none⟩ = some (.int .i64 (op)) := dd.row.cell (i := 0) (by omega)
      have g0 := dd.row.frozen 0
      have x1 : w9.cell? ⟨w1.heap.size, 1, none⟩ = some (.int .i64 (sm)) := dd.row.cell (i := 1) (by omega)
      have g1 := dd.row.frozen 1
      have x2 : w9.cell? ⟨w1.heap.size, 2, none⟩ = some (.int .i64 (sr)) := dd.row.cell (i := 2) (by omega)
      have g2 := dd.row.frozen 2
      have x3 : w9.cell? ⟨w1.heap.size, 3, none⟩ = some (.int .i64 (sv)) := dd.row.cell (i := 3) (by omega)
      have g3 := dd.row.frozen 3
      have x4 : w9.cell? ⟨w1.heap.size, 4, none⟩ = some (.int .i64 (dm)) := dd.row.cell (i := 4) (by omega)
      have g4 := dd.row.frozen 4
      have x5 : w9.cell? ⟨w1.heap.size, 5, none⟩ = some (.int .i64 (dr)) := dd.row.cell (i := 5) (by omega)
      have g5 := dd.row.frozen 5
      have x6 : w9.cell? ⟨w1.heap.size, 6, none⟩ = some (.int .i64 (dv)) := dd.row.cell (i := 6) (by omega)
      have g6 := dd.row.frozen 6
      have x7 : w9.cell? ⟨w1.heap.size, 7, none⟩ = some (.int .i64 (x)) := dd.row.cell (i := 7) (by omega)
      have g7 := dd.row.frozen 7
      clear dd
      have HO' := unhide HO
      cases hok : Is.ok ⟨op, ⟨sm, sr, sv⟩, ⟨dm, dr, dv⟩, x⟩
      · rw [hok] at HO'
        have HNO := hide HO'
        clear HO'
        go_wp2
        refine bodyPost_ret (results_row3 (P := Tryd.prog) rfl _ _ w.heap.size 30 (cs8 [0, 0, 0, 0, 0, 0, 0, 0]) (0, 0) _ rfl (row8_heap (((unhide D9).rz).put (0) (0) (0) (0) (0) (0) (0) (0)).row) Tryd.underlying30 rfl (by kernel_rfl)) rfl ?_
        refine ⟨congrArg Ending.returned (decV_no (unhide HNO)), (((unhide D9).rz).put (0) (0) (0) (0) (0) (0) (0) (0)).bel⟩
      · rw [hok] at HO'
        have HYES := hide HO'
        clear HO'
        go_wp2
        refine bodyPost_ret (results_row3 (P := Tryd.prog) rfl _ _ w.heap.size 30 (cs8 [op, sm, sr, sv, dm, dr, dv, x]) (0, 0) _ rfl (row8_heap (((unhide D9).rz).put (op) (sm) (sr) (sv) (dm) (dr) (dv) (x)).row) Tryd.underlying30 rfl (by kernel_rfl)) rfl ?_
        refine ⟨congrArg Ending.returned (Eq.trans ?_ (decV_yes (unhide HYES))), (((unhide D9).rz).put (op) (sm) (sr) (sv) (dm) (dr) (dv) (x)).bel⟩
        rw [unhide HX, unhide HNN]
        refine congrArg (fun z : Int => Value.tuple #[_, Value.int .i64 z, Value.bool true]) ?_
        rw [unhide HWN]
end Go.Proofs.YtboedaofbchdkaaDoor

namespace Go.Proofs.YtboedaofbchdkaaDoor
open Go.ChangeShapes Go.WideShapes Go.ChangeAt Go.RowKit
set_option linter.unusedVariables false
set_option maxRecDepth 8000
set_option linter.unusedSimpArgs false
theorem ok_op0 {i : Is} (h : i.op = 0) : i.ok = false := by
  cases e : i.ok
  · rfl
  · have := (is_ok e).1; omega
theorem decI_any (a : Option Addr) (len cap : Nat) (ns : List Int) (i : Int) (w : World) (ht : Tab w) (hl : ns.length = len) (hm : len ≤ 1099511627776) (hr : RdN w a ns) (hbd : Bds ns) :
    Calls Tryd.prog 52 #[.slice a len cap, .int .i64 i] w fun e w' => e = .returned (decV ns i) ∧ Below w.heap.size w w' := by
  by_cases hi : i < 0 ∨ (len : Int) ≤ i
  · exact decI_out a len cap ns i w hl hm hi
  obtain ⟨p, rfl⟩ := Int.eq_ofNat_of_zero_le (show 0 ≤ i by omega)
  have hp : p < len := by omega
  rcases hr with h0 | ⟨b, off, rfl, hb, hc⟩
  · rw [h0] at hl; simp at hl; omega
  have hn2 := (hbd p (by omega)).2
  have hI1 : inB (p : Int) 0 ((ns.length : Int) - 1) = true := inB_tQ _ _ _ (by omega)
  by_cases hin : 0 ≤ nAt ns p ∧ nAt ns p ≤ 65535
  · have hIn : decIn ns (p : Int) = true := by
      unfold decIn
      rw [hI1, Int.toNat_natCast, inB_tQ _ _ _ hin]
      rfl
    have hdI : dI (nAt ns p) = dOp (nAt ns p) := by unfold dI; rw [if_pos hin]
    have hO := decOk_in hIn
    rw [Int.toNat_natCast] at hO
    obtain ⟨op, sm, sr, dm, dr, x, hD, ho1, ho2, hs, hd⟩ := dOp_form (nAt ns p) hin.1 hin.2
    have hokD : okD (nAt ns p) = !(op == 0) := by unfold okD; rw [hdI, hD]
    have hXop : (decX ns (p : Int)).op = op := by unfold decX; rw [Int.toNat_natCast, hD]; rfl
    by_cases hz : op = 0
    · have hno : decOk ns (p : Int) = false := by rw [hO, ok_op0 (hXop.trans hz), Bool.and_false]
      exact decI_none b off len cap ns p _ w ht hl hm hb hc hp rfl hn2 op sm sr dm dr x (hdI.trans hD) (by rw [hokD, hz]; rfl) hno
    · have hok : okD (nAt ns p) = true := by rw [hokD]; simp [hz]
      have hneed : (dOp (nAt ns p)).need = oneX (Od.hasX ⟨sm, sr, 0⟩) + oneX (Od.hasX ⟨dm, dr, 0⟩) := by rw [hD]; rfl
      have hwords : Is.words ⟨op, ⟨sm, sr, 0⟩, ⟨dm, dr, 0⟩, x⟩ = 1 + ((oneX (Od.hasX ⟨sm, sr, 0⟩) + oneX (Od.hasX ⟨dm, dr, 0⟩) : Nat) : Int) := by
        unfold Is.words
        simp only
        have e1 : (inB op 1 6 && Od.hasX ⟨sm, sr, 0⟩) = Od.hasX ⟨sm, sr, 0⟩ := by
          by_cases h6 : op ≤ 6
          · rw [inB_tQ _ _ _ ⟨by omega, h6⟩, Bool.true_and]
          · rw [hs (by omega), Bool.and_false]
        have e2 : (inB op 1 15 && Od.hasX ⟨dm, dr, 0⟩) = Od.hasX ⟨dm, dr, 0⟩ := by
          by_cases h15 : op ≤ 15
          · rw [inB_tQ _ _ _ ⟨by omega, h15⟩, Bool.true_and]
          · rw [hd (by omega), Bool.and_false]
        rw [e1, e2]
        cases Od.hasX ⟨sm, sr, 0⟩ <;> cases Od.hasX ⟨dm, dr, 0⟩ <;> rfl
      rw [hneed] at hO
      by_cases hfit : p + 1 + (oneX (Od.hasX ⟨sm, sr, 0⟩) + oneX (Od.hasX ⟨dm, dr, 0⟩)) ≤ len
      · have hX : decX ns (p : Int) = ⟨op, ⟨sm, sr, if Od.hasX ⟨sm, sr, 0⟩ = true then nAt ns (p + 1) else 0⟩, ⟨dm, dr, if Od.hasX ⟨dm, dr, 0⟩ = true then nAt ns (p + 1 + oneX (Od.hasX ⟨sm, sr, 0⟩)) else 0⟩, x⟩ := by
          unfold decX
          rw [Int.toNat_natCast, hD]
          rfl
        rw [hl, decide_eq_true hfit, Bool.true_and, hX] at hO
        exact decI_in b off len cap ns p _ w ht hl hm hb hc hp rfl hn2 op sm sr dm dr x _ _ _ _ (hdI.trans hD) hok rfl rfl rfl rfl hwords hfit hX (by rw [Int.toNat_natCast]; exact hneed) hO
      · rw [hl, decide_eq_false hfit, Bool.false_and] at hO
        exact decI_short b off len cap ns p _ w ht hl hm hb hc hp rfl hn2 op sm sr dm dr x (hdI.trans hD) hok (by rw [hwords]; omega) hO
  · have hno : decOk ns (p : Int) = false := decOk_out (by
      unfold decIn
      rw [Int.toNat_natCast, inB_fQ (nAt ns p) 0 65535 (by omega), Bool.and_false])
    have hdI : dI (nAt ns p) = ⟨0, ⟨0, 0, 0⟩, ⟨0, 0, 0⟩, 0⟩ := by unfold dI; rw [if_neg hin]; rfl
    exact decI_none b off len cap ns p _ w ht hl hm hb hc hp rfl hn2 0 0 0 0 0 0 hdI (by unfold okD; rw [hdI]; rfl) hno
end Go.Proofs.YtboedaofbchdkaaDoor

namespace Go.Proofs.YtboedaofbchdkaaDoor
open Go.ChangeShapes Go.WideShapes Go.ChangeAt Go.RowKit
set_option linter.unusedVariables false
set_option maxRecDepth 8000
set_option linter.unusedSimpArgs false
set_option maxHeartbeats 2000000 in
theorem answerE_any (g B : Nat) (mem ms : List Int) (y : Mv) (w : World) (hm : mem.length = 256) (hg : w.heap[g]? = some (.cells (bigA mem y) 55 (0, 0))) (ho : OwnN w B y.m.v ms) (hB : some g ≠ y.m.v.ownBlock) :
    Calls Tryd.prog 27 #[.pointer (some ⟨g, 0, none⟩)] w fun e w' => e = .returned (.agg y.cs) ∧ OwnN w' B y.m.v (mem.take ms.length ++ ms.drop 256) ∧ w.grownBy w' y.m.v.ownBlock := by
  have b1 := (below_new w (.cells #[Value.slice none 0 0, Value.slice none 0 0, Value.bool false, Value.bool false, Value.bool false, Value.bool false, Value.slice none 0 0, Value.slice none 0 0, Value.int .i64 0] 32)).trans ((below_drew (w := w.alloc (.cells #[Value.slice none 0 0, Value.slice none 0 0, Value.bool false, Value.bool false, Value.bool false, Value.bool false, Value.slice none 0 0, Value.slice none 0 0, Value.int .i64 0] 32))).mono (below_new w (.cells #[Value.slice none 0 0, Value.slice none 0 0, Value.bool false, Value.bool false, Value.bool false, Value.bool false, Value.slice none 0 0, Value.slice none 0 0, Value.int .i64 0] 32)).size)
  have g1 := row_lat hg b1
  have r1 : (w.alloc (.cells #[Value.slice none 0 0, Value.slice none 0 0, Value.bool false, Value.bool false, Value.bool false, Value.bool false, Value.slice none 0 0, Value.slice none 0 0, Value.int .i64 0] 32)).drew.heap[w.heap.size]? = some (.cells #[Value.slice none 0 0, Value.slice none 0 0, Value.bool false, Value.bool false, Value.bool false, Value.bool false, Value.slice none 0 0, Value.slice none 0 0, Value.int .i64 0] 32 (0, 0)) := heap_alloc_last w _
  have o1 := ho.later b1
  obtain ⟨w2, k, hcp, hn, hgr⟩ := copy_out y.m ms mem y g B (w.alloc (.cells #[Value.slice none 0 0, Value.slice none 0 0, Value.bool false, Value.bool false, Value.bool false, Value.bool false, Value.slice none 0 0, Value.slice none 0 0, Value.int .i64 0] 32)).drew g1 hm o1
  have O2 := hide hn
  have G2 := hide ((hgr.block g (row_lt g1) hB).trans g1)
  have R2 := hide ((hgr.block w.heap.size (row_lt r1) (own_ne ho (.inr (Nat.le_refl _)))).trans r1)
  have GR := hide (grownBy_trans (grownBy_below b1) hgr)
  have HO := hide ho
  have C1 := hide (big_cell g1 hm 0 _ rfl)
  have CP := hide hcp
  clear hcp hn hgr o1 r1 b1 ho hg
  go_enter Tryd.func27, Tryd.ntmps27
  go_wp2_with fail
  refine wp_region_held_drew (S := fun w' => w'.cell? ⟨g, 256, none⟩ = some (.slice y.m.a y.m.n y.m.c)) (by kernel_rfl) (unhide C1) (fun hS => ?_)
  have HS := hide hS
  clear hS
  refine wpAnyH_take (i := 0) (v := .pointer (some ⟨g, 0, none⟩)) rfl (by kernel_rfl) (by kernel_rfl) (by kernel_rfl) (fun _ _ _ h => h) (Or.inl ⟨by rfl, fun w hc => ?_⟩) (unhide HS) ?_
  · clear hc; go_simp
  go_simp
  refine wpAnyH_take (i := 1) (v := .pointer (some ⟨g, 0, none⟩)) rfl (by kernel_rfl) (by kernel_rfl) (by kernel_rfl) (fun _ _ _ h => h) (Or.inl ⟨by rfl, fun w hc => ?_⟩) (unhide HS) ?_
  · clear hc; go_simp
  go_simp
  refine wpAnyH_take (i := 2) (v := .pointer (some ⟨g, 256, none⟩)) rfl (by kernel_rfl) (by kernel_rfl) (by kernel_rfl) (fun _ _ _ h => h) (Or.inl ⟨by rfl, fun w hc => ?_⟩) (unhide HS) ?_
  · clear hc; go_simp
  go_simp
  refine wpAnyH_take (i := 3) (v := .pointer (some ⟨g, 256, none⟩)) rfl (by kernel_rfl) (by kernel_rfl) (by kernel_rfl) (fun _ _ _ h => h) (Or.inl ⟨by rfl, fun w hc => ?_⟩) (unhide HS) ?_
  · clear hc; go_simp
  go_simp
  refine wpAnyH_take (i := 4) (v := .slice y.m.a y.m.n y.m.c) rfl (by kernel_rfl) (by kernel_rfl) (by kernel_rfl) (fun _ _ _ h => h) (Or.inl ⟨by rfl, fun w hc => ?_⟩) (unhide HS) ?_
  · go_simp
  go_simp
  refine wpAnyH_take (i := 5) (v := .pointer (some ⟨g, 0, none⟩)) rfl (by kernel_rfl) (by kernel_rfl) (by kernel_rfl) (fun _ _ _ h => h) (Or.inl ⟨by rfl, fun w hc => ?_⟩) (unhide HS) ?_
  · clear hc; go_simp
  go_simp
  refine wpAnyH_take (i := 6) (v := .pointer (some ⟨g, 0, none⟩)) rfl (by kernel_rfl) (by kernel_rfl) (by kernel_rfl) (fun _ _ _ h => h) (Or.inl ⟨by rfl, fun w hc => ?_⟩) (unhide HS) ?_
  · clear hc; go_simp
  go_simp
  refine wpAnyH_take (i := 7) (v := .pointer (some ⟨g, 0, none⟩)) rfl (by kernel_rfl) (by kernel_rfl) (by kernel_rfl) (fun _ _ _ h => h) (Or.inl ⟨by rfl, fun w hc => ?_⟩) (unhide HS) ?_
  · clear hc; go_simp
  go_simp
  refine wpAnyH_take (i := 8) (v := .slice (some ⟨g, 0, none⟩) 256 256) rfl (by kernel_rfl) (by kernel_rfl) (by kernel_rfl) (fun _ _ _ h => h) (Or.inl ⟨by rfl, fun w hc => ?_⟩) (unhide HS) ?_
  · clear hc; go_simp
  go_simp
  refine wpAnyH_ready (rs := [9]) (by kernel_rfl) (by simp) ?_
  refine AllReadyH.cons rfl (fun K hK => ?_) AllReadyH.nil
  have hcp := unhide CP
  go_simp
  refine hK.out _ _ (big_cell (unhide G2) hm 0 _ rfl) (fun _ => ?_)
  clear hK K hcp CP HS C1
  refine wpAnyH_done (by kernel_rfl) ?_ _
  have c0 : w2.cell? ⟨g, 256, none⟩ = some (.slice y.m.a y.m.n y.m.c) := big_cell (unhide G2) hm 0 _ rfl
  have c1 : w2.cell? ⟨g, 257, none⟩ = some (.slice y.r.a y.r.n y.r.c) := big_cell (unhide G2) hm 1 _ rfl
  have c2 : w2.cell? ⟨g, 258, none⟩ = some (.bool y.n) := big_cell (unhide G2) hm 2 _ rfl
  have c3 : w2.cell? ⟨g, 259, none⟩ = some (.bool y.z) := big_cell (unhide G2) hm 3 _ rfl
  have c4 : w2.cell? ⟨g, 260, none⟩ = some (.bool y.v) := big_cell (unhide G2) hm 4 _ rfl
  have c5 : w2.cell? ⟨g, 261, none⟩ = some (.bool y.c) := big_cell (unhide G2) hm 5 _ rfl
  have c6 : w2.cell? ⟨g, 262, none⟩ = some (.slice y.i.a y.i.n y.i.c) := big_cell (unhide G2) hm 6 _ rfl
  have c7 : w2.cell? ⟨g, 263, none⟩ = some (.slice y.o.a y.o.n y.o.c) := big_cell (unhide G2) hm 7 _ rfl
  have c8 : w2.cell? ⟨g, 264, none⟩ = some (.int .i64 y.st) := big_cell (unhide G2) hm 8 _ rfl
  go_wp2_with (refine wpList_store_row rfl 32 _ _ rfl w.heap.size y.cs rfl rfl 32 zC (unhide R2) (by kernel_rfl) rfl (Mv.cs_one _) ?_)
  refine bodyPost_ret (results_cell_row (P := Tryd.prog) rfl _ _ w.heap.size 32 y.cs (0, 0) _ rfl (setRow_heap w2 _ _ _ 32 _ (unhide R2)) Tryd.underlying32 rfl (by kernel_rfl)) rfl ?_
  exact ⟨rfl, (unhide O2).keep fun q hv _ => setRow_other _ _ q _ (by have := ((unhide HO).lt hv).2; omega), grownBy_own (unhide GR) (grownBy_setRow _) (fun b e => by cases e; exact Nat.le_refl _)⟩
theorem yields_loadQ {P : Program} {ops : Array Oper} {S : World → Prop} {o : Oper} {a : Act} (hw : Region.wanted o (yielded ops a.tmps) = true) (ty : TypeId) (x : Operand) (ho : o.op = .load ty x) (g : Nat) (hx : a.eval x = .pointer (some ⟨g, 0, none⟩)) (t : TypeId) (cs : Array Value) (d : TypeDesc)
    (hS : ∀ w, S w → w.heap[g]? = some (.cells cs t (0, 0))) (hu : P.underlying ty = some d) (hd : (match d with | .struct _ | .array _ _ => true | _ => false) = true) (hi : (P.info? ty).map (·.size) = some cs.size) : YieldsIf P ops S o (.agg cs) a := by
  refine .inl ⟨hw, fun w hw => ?_⟩
  simp only [execOp, ho, hx, Instr.loadAt, Instr.sureAddr, Sem.run_bind, Sem.run_pure, Result.andThen_ok, run_loadVar_row w g t ty cs (0, 0) d (hS w hw) hu hd hi]
/-- The numbers of an instruction that is right, as they count. -/
theorem is_nat {i : Is} (h : i.ok = true) : ∃ op sm sr dm dr : Nat, i.op = (op : Int) ∧ i.s.m = (sm : Int) ∧ i.s.r = (sr : Int) ∧ i.d.m = (dm : Int) ∧ i.d.r = (dr : Int) ∧ InsN op sm sr dm dr i.n := by
  obtain ⟨h1, h2, h3, h4, h5, h6, h7, h8, h9, -⟩ := is_ok h
  have hs : (0 ≤ i.s.m ∧ i.s.m ≤ 7) ∧ (0 ≤ i.s.r ∧ i.s.r ≤ 7) := by
    by_cases c : i.op ≤ 6
    · have := h2 c
      unfold Od.ok inB at this
      simp at this
      omega
    · have := h4 (by omega)
      unfold Od.zero at this
      simp at this
      omega
  have hd : (0 ≤ i.d.m ∧ i.d.m ≤ 7) ∧ (0 ≤ i.d.r ∧ i.d.r ≤ 7) := by
    by_cases c : i.op ≤ 15
    · have := h3 c
      unfold Od.ok inB at this
      simp at this
      omega
    · have := h5 (by omega)
      unfold Od.zero at this
      simp at this
      omega
  refine ⟨i.op.toNat, i.s.m.toNat, i.s.r.toNat, i.d.m.toNat, i.d.r.toNat, by omega, by omega, by omega, by omega, by omega, ⟨by omega, by omega, fun _ => by omega, fun _ => by omega, fun hh => h8 (by omega), fun _ => by omega⟩⟩
/-- Behind the first word. -/
def Ms.nxt (t : Ms) : Ms := t.rg 7 ((nAt t.d.r 7 + 2) % 65536)
def Ms.ins (t : Ms) : Is := decX t.d.m (nAt t.d.r 7 / 2)
def Ms.insB (t : Ms) : Bool := adB (nAt t.d.r 7) && decOk t.d.m (nAt t.d.r 7 / 2)
/-- Whether a step is none that faults. -/
def Ms.stpB (t : Ms) : Bool := t.insB && t.nxt.doB t.ins.op.toNat t.ins.s.m.toNat t.ins.s.r.toNat t.ins.d.m.toNat t.ins.d.r.toNat t.ins.n
/-- What it leaves. -/
def Ms.stp (t : Ms) : Ms := t.nxt.dos t.ins.op.toNat t.ins.s.m.toNat t.ins.s.r.toNat t.ins.d.m.toNat t.ins.d.r.toNat t.ins.n
def Ms.stpS (t : Ms) (st : Int) : Int := doS t.ins.op.toNat st
theorem Tab.fm {w w' : World} {g : Nat} {y y' : Mv} (h : Tab w) (f : Fm w w' g y y') (hg : 0 ≠ g) (hy : ¬ y.at 0) : Tab w' :=
  ⟨Nat.lt_of_lt_of_le h.1 f.size, fun k hk => by have e := f.blk 0 h.1 hg hy; have := h.2 k hk; unfold World.cell? at this ⊢; simp only [e]; exact this⟩
theorem wd_bds {ns : List Int} (h : Wd ns) : Bds ns := fun i hi => by have := h _ (nAt_mem hi); omega
theorem Pz.mem {w : World} {g B gr rc : Nat} {y : Mv} {t : Ms} {st : Int} {m0 : List Int} (h : Pz w g B gr rc y t st m0) : RdN w (some ⟨g, 0, none⟩) t.d.m :=
  .inr ⟨g, 0, rfl, h.gl, fun i hi => by rw [Nat.zero_add]; exact (cell_of_row w g i _ 55 _ h.row).trans (bigA_mem y h.len (by have := h.len; omega))⟩
set_option maxHeartbeats 4000000 in
theorem step_odd (g B gr rc : Nat) (y : Mv) (t : Ms) (st : Int) (w : World) (h : Pz w g B gr rc y t st t.d.m) (hk : Dk t.d) (ht : Tab w) (hB : 0 < B) (hno : adB (nAt t.d.r 7) = false) (t2 : Ms) (st2 : Int) : Calls Tryd.prog 32 #[.pointer (some ⟨g, 0, none⟩)] w (DoE g B y t2 st2 false w) := by
  have c1 := h.cr
  have AR := hide h.atr
  have G0 := hide (show 0 ≠ g by have := h.lo; omega)
  have Y0 := hide (show ¬ y.at 0 from fun e => by have := (h.own.lo e).1; omega)
  have TB := hide ht
  obtain ⟨a0, a1⟩ := hk.rw _ (nAt_mem (show 7 < t.d.r.length by have := hk.rl; omega))
  have GB := hide (goOn_any g B gr rc 7 y t.d w h.pg (by rw [hk.rl]; omega) a0 a1)
  have GO := hide (show ∀ v, Pg v g B gr rc y (t.d.reg 7 ((nAt t.d.r 7 + 2) % 65536)) → Pz v g B gr rc y t.nxt st t.d.m from fun v p => h.ofPg p)
  have K2 := hide (show Dk t.nxt.d from hk.regS _ _)
  have IA := hide (fun v => isAddr_any (nAt t.d.r 7) v)
  rw [hno] at IA
  unfold DoE
  generalize t.d.reg 7 ((nAt t.d.r 7 + 2) % 65536) = dd at GB GO
  generalize nAt t.d.r 7 = v7 at GB IA a0 a1
  clear h hk ht hno
  go_enter Tryd.func32, Tryd.ntmps32
  go_wp2_with fail
  refine (unhide GB).mono ?_
  rintro e w2 ⟨rfl, p2, g2⟩
  have H2 := hide (unhide GO _ p2)
  have F2 := hide (Fm.grownR (g := g) g2 (unhide AR))
  clear p2 g2 GB GO
  go_wp2_with fail
  refine (unhide IA _).mono ?_
  rintro e w9 ⟨rfl, hw9⟩
  rw [hw9]
  clear hw9 w9
  go_wp2
  go_ret
  first | exact ⟨y, rfl, ⟨fun h => by simp at h, unhide F2⟩⟩ | exact ⟨rfl, y, ⟨fun h => by simp at h, unhide F2⟩⟩
set_option maxHeartbeats 4000000 in
theorem step_none (g B gr rc : Nat) (y : Mv) (t : Ms) (st : Int) (w : World) (h : Pz w g B gr rc y t st t.d.m) (hk : Dk t.d) (ht : Tab w) (hB : 0 < B) (hyes : adB (nAt t.d.r 7) = true) (hno : decOk t.d.m (nAt t.d.r 7 / 2) = false) (t2 : Ms) (st2 : Int) : Calls Tryd.prog 32 #[.pointer (some ⟨g, 0, none⟩)] w (DoE g B y t2 st2 false w) := by
  have c1 := h.cr
  have AR := hide h.atr
  have G0 := hide (show 0 ≠ g by have := h.lo; omega)
  have Y0 := hide (show ¬ y.at 0 from fun e => by have := (h.own.lo e).1; omega)
  have TB := hide ht
  obtain ⟨a0, a1⟩ := hk.rw _ (nAt_mem (show 7 < t.d.r.length by have := hk.rl; omega))
  have GB := hide (goOn_any g B gr rc 7 y t.d w h.pg (by rw [hk.rl]; omega) a0 a1)
  have GO := hide (show ∀ v, Pg v g B gr rc y (t.d.reg 7 ((nAt t.d.r 7 + 2) % 65536)) → Pz v g B gr rc y t.nxt st t.d.m from fun v p => h.ofPg p)
  have K2 := hide (show Dk t.nxt.d from hk.regS _ _)
  have IA := hide (fun v => isAddr_any (nAt t.d.r 7) v)
  rw [hyes] at IA
  obtain ⟨k, hk2⟩ := Int.eq_ofNat_of_zero_le (show 0 ≤ nAt t.d.r 7 / 2 by omega)
  have hq := quo2 a0 (by omega) hk2
  have DE := hide (fun v (p : Pz v g B gr rc y t.nxt st t.d.m) (tb : Tab v) => decI_any (some ⟨g, 0, none⟩) 256 256 t.d.m (k : Int) v tb hk.ml (by omega) p.mem (wd_bds hk.mw))
  unfold decV at DE
  rw [hk2] at hno
  rw [hno] at DE
  generalize decN t.d.m (k : Int) = dn at DE
  generalize decIs t.d.m (k : Int) = di at DE
  obtain ⟨op, ⟨sm, sr, sx⟩, ⟨dm, dr, dx⟩, n⟩ := di
  unfold Is.v at DE
  simp only at DE
  unfold DoE
  generalize t.d.reg 7 ((nAt t.d.r 7 + 2) % 65536) = dd at GB GO
  generalize nAt t.d.r 7 = v7 at GB IA a0 a1 hq hk2
  clear h hk ht hno hyes
  go_enter Tryd.func32, Tryd.ntmps32
  go_wp2_with fail
  refine (unhide GB).mono ?_
  rintro e w2 ⟨rfl, p2, g2⟩
  have H2 := hide (unhide GO _ p2)
  have F2 := hide (Fm.grownR (g := g) g2 (unhide AR))
  clear p2 g2 GB GO
  go_wp2_with fail
  refine (unhide IA _).mono ?_
  rintro e w9 ⟨rfl, hw9⟩
  rw [hw9]
  clear hw9 w9
  have DC := hide (unhide DE _ (unhide H2) ((unhide TB).fm (unhide F2) (unhide G0) (unhide Y0)))
  clear c1
  go_wp2_with fail
  refine (unhide DC).mono ?_
  rintro e w3 ⟨rfl, b3⟩
  have F3 := hide (((unhide F2).trans (Fm.of b3)).trans (Fm.of (below_new w3 (Obj.cells #[.int .i64 op, .int .i64 sm, .int .i64 sr, .int .i64 sx, .int .i64 dm, .int .i64 dr, .int .i64 dx, .int .i64 n] 30))))
  clear b3 DC DE
  go_wp2_with (refine wpList_store_new rfl 30 _ _ rfl #[.int .i64 op, .int .i64 sm, .int .i64 sr, .int .i64 sx, .int .i64 dm, .int .i64 dr, .int .i64 dx, .int .i64 n] rfl rfl _ (by kernel_rfl) rfl rfl ?_)
  generalize w3.alloc (Obj.cells #[.int .i64 op, .int .i64 sm, .int .i64 sr, .int .i64 sx, .int .i64 dm, .int .i64 dr, .int .i64 dx, .int .i64 n] 30) = w4 at F3 ⊢
  go_quiet (fail)
  go_wp2
  go_ret
  have FD : ∀ m, Fm w (w4.drewN m) g y y := fun m => (unhide F3).trans (Fm.of (below_drewN (Below.refl _ _) m))
  first | exact ⟨y, rfl, ⟨fun h => by simp at h, FD _⟩⟩ | exact ⟨rfl, y, ⟨fun h => by simp at h, FD _⟩⟩
set_option maxHeartbeats 8000000 in
theorem step_do (g B gr rc : Nat) (y : Mv) (t : Ms) (st : Int) (w : World) (h : Pz w g B gr rc y t st t.d.m) (hk : Dk t.d) (ht : Tab w) (hB : 0 < B) (hyes : adB (nAt t.d.r 7) = true) (hok : decOk t.d.m (nAt t.d.r 7 / 2) = true) (op sm sr dm dr : Nat) (sx dx n : Int) (hx : t.ins = ⟨op, ⟨sm, sr, sx⟩, ⟨dm, dr, dx⟩, n⟩) (hi : InsN op sm sr dm dr n) :
    Calls Tryd.prog 32 #[.pointer (some ⟨g, 0, none⟩)] w (DoE g B y (t.nxt.dos op sm sr dm dr n) (doS op st) (t.nxt.doB op sm sr dm dr n) w) := by
  have c1 := h.cr
  have AR := hide h.atr
  have G0 := hide (show 0 ≠ g by have := h.lo; omega)
  have Y0 := hide (show ¬ y.at 0 from fun e => by have := (h.own.lo e).1; omega)
  have TB := hide ht
  obtain ⟨a0, a1⟩ := hk.rw _ (nAt_mem (show 7 < t.d.r.length by have := hk.rl; omega))
  have GB := hide (goOn_any g B gr rc 7 y t.d w h.pg (by rw [hk.rl]; omega) a0 a1)
  have GO := hide (show ∀ v, Pg v g B gr rc y (t.d.reg 7 ((nAt t.d.r 7 + 2) % 65536)) → Pz v g B gr rc y t.nxt st t.d.m from fun v p => h.ofPg p)
  have K2 := hide (show Dk t.nxt.d from hk.regS _ _)
  have IA := hide (fun v => isAddr_any (nAt t.d.r 7) v)
  rw [hyes] at IA
  obtain ⟨k, hk2⟩ := Int.eq_ofNat_of_zero_le (show 0 ≤ nAt t.d.r 7 / 2 by omega)
  have hq := quo2 a0 (by omega) hk2
  have DE := hide (fun v (p : Pz v g B gr rc y t.nxt st t.d.m) (tb : Tab v) => decI_any (some ⟨g, 0, none⟩) 256 256 t.d.m (k : Int) v tb hk.ml (by omega) p.mem (wd_bds hk.mw))
  unfold decV at DE
  unfold Ms.ins at hx
  rw [hk2] at hok hx
  have hdi : decIs t.d.m (k : Int) = ⟨op, ⟨sm, sr, sx⟩, ⟨dm, dr, dx⟩, n⟩ := by unfold decIs; rw [if_pos hok]; exact hx
  rw [hok, hdi] at DE
  generalize decN t.d.m (k : Int) = dn at DE
  unfold Is.v at DE
  simp only at DE
  have AO := hide (fun v => actionOf_any op hi.lo hi.hi v)
  have DV := hide (fun v b C (p : Pz v g B gr rc y t.nxt st t.d.m) (hb : actB C v op b) => do_any g B gr rc op sm sr dm dr b C sx dx n y t.nxt st v p (unhide K2) hi hb)
  unfold DoV at DV
  unfold DoE
  have DOE := hide (fun (v : World) (e : Ending) (v' : World) (q : DoE g B y (t.nxt.dos op sm sr dm dr n) (doS op st) (t.nxt.doB op sm sr dm dr n) v e v') => q)
  unfold DoE at DV
  generalize t.nxt.doB op sm sr dm dr n = okd at DV ⊢
  generalize t.nxt.dos op sm sr dm dr n = t2 at DV ⊢
  generalize doS op st = st2 at DV ⊢
  generalize t.nxt = t1 at GO DE DV
  generalize t.d.reg 7 ((nAt t.d.r 7 + 2) % 65536) = dd at GB GO
  generalize nAt t.d.r 7 = v7 at GB IA a0 a1 hq hk2
  clear h hk ht hok hyes hdi hx K2 DOE
  go_enter Tryd.func32, Tryd.ntmps32
  go_wp2_with fail
  refine (unhide GB).mono ?_
  rintro e w2 ⟨rfl, p2, g2⟩
  have H2 := hide (unhide GO _ p2)
  have F2 := hide (Fm.grownR (g := g) g2 (unhide AR))
  clear p2 g2 GB GO
  go_wp2_with fail
  refine (unhide IA _).mono ?_
  rintro e w9 ⟨rfl, hw9⟩
  rw [hw9]
  clear hw9 w9
  have DC := hide (unhide DE _ (unhide H2) ((unhide TB).fm (unhide F2) (unhide G0) (unhide Y0)))
  clear c1
  go_wp2_with fail
  refine (unhide DC).mono ?_
  rintro e w3 ⟨rfl, b3⟩
  have H4 := hide (((unhide H2).later b3).later (below_new w3 (Obj.cells #[.int .i64 (op : Int), .int .i64 (sm : Int), .int .i64 (sr : Int), .int .i64 sx, .int .i64 (dm : Int), .int .i64 (dr : Int), .int .i64 dx, .int .i64 n] 30)))
  have F4 := hide (((unhide F2).trans (Fm.of b3)).trans (Fm.of (below_new w3 (Obj.cells #[.int .i64 (op : Int), .int .i64 (sm : Int), .int .i64 (sr : Int), .int .i64 sx, .int .i64 (dm : Int), .int .i64 (dr : Int), .int .i64 dx, .int .i64 n] 30))))
  have R4 := hide (heap_alloc_last w3 (Obj.cells #[.int .i64 (op : Int), .int .i64 (sm : Int), .int .i64 (sr : Int), .int .i64 sx, .int .i64 (dm : Int), .int .i64 (dr : Int), .int .i64 dx, .int .i64 n] 30))
  clear b3 DC DE
  go_wp2_with (refine wpList_store_new rfl 30 _ _ rfl #[.int .i64 (op : Int), .int .i64 (sm : Int), .int .i64 (sr : Int), .int .i64 sx, .int .i64 (dm : Int), .int .i64 (dr : Int), .int .i64 dx, .int .i64 n] rfl rfl _ (by kernel_rfl) rfl rfl ?_)
  generalize w3.heap.size = ib at R4 ⊢
  generalize w3.alloc (Obj.cells #[.int .i64 (op : Int), .int .i64 (sm : Int), .int .i64 (sr : Int), .int .i64 sx, .int .i64 (dm : Int), .int .i64 (dr : Int), .int .i64 dx, .int .i64 n] 30) = w4 at H4 F4 R4 ⊢
  have H5 := hide ((unhide H4).later (below_drew (w := w4)))
  have F5 := hide ((unhide F4).trans (Fm.of (below_drew (w := w4))))
  have HS := hide (row_lat (unhide R4) (below_drew (w := w4)))
  refine wp_region_last (fun v => v.heap[ib]? = some (.cells #[.int .i64 (op : Int), .int .i64 (sm : Int), .int .i64 (sr : Int), .int .i64 sx, .int .i64 (dm : Int), .int .i64 (dr : Int), .int .i64 dx, .int .i64 n] 30 (0, 0))) 7 (by kernel_rfl) ?_
  generalize w4.drew = wd at H5 F5 HS ⊢
  refine wpAnyL_takeW (i := 0) (v := .bool true) rfl (by kernel_rfl) (by kernel_rfl) (by kernel_rfl) (by kernel_rfl) (fun _ _ _ h => h) (Or.inl ⟨by rfl, fun w hc => ?_⟩) (.inl (unhide HS)) ?_
  · clear hc; go_simp
  go_simp
  refine wpAnyL_takeW (i := 1) (v := .bool true) rfl (by kernel_rfl) (by kernel_rfl) (by kernel_rfl) (by kernel_rfl) (fun _ _ _ h => h) (Or.inl ⟨by rfl, fun w hc => ?_⟩) (.inl (unhide HS)) ?_
  · clear hc; go_simp
  go_simp
  refine wpAnyL_takeW (i := 2) (v := .pointer (some ⟨ib, 0, none⟩)) rfl (by kernel_rfl) (by kernel_rfl) (by kernel_rfl) (by kernel_rfl) (fun _ _ _ h => h) (Or.inl ⟨by rfl, fun w hc => ?_⟩) (.inl (unhide HS)) ?_
  · clear hc; go_simp
  go_simp
  refine wpAnyL_takeW (i := 5) (v := .pointer (some ⟨g, 0, none⟩)) rfl (by kernel_rfl) (by kernel_rfl) (by kernel_rfl) (by kernel_rfl) (fun _ _ _ h => h) (Or.inl ⟨by rfl, fun w hc => ?_⟩) (.inl (unhide HS)) ?_
  · clear hc; go_simp
  go_simp
  refine wpAnyL_takeS (i := 6) (v := .agg #[.int .i64 (op : Int), .int .i64 (sm : Int), .int .i64 (sr : Int), .int .i64 sx, .int .i64 (dm : Int), .int .i64 (dr : Int), .int .i64 dx, .int .i64 n]) rfl (by kernel_rfl) (by kernel_rfl) (by kernel_rfl) (by kernel_rfl) (by kernel_rfl) (fun _ _ _ h => h) (yields_loadQ (by rfl) 30 _ rfl ib rfl 30 #[.int .i64 (op : Int), .int .i64 (sm : Int), .int .i64 (sr : Int), .int .i64 sx, .int .i64 (dm : Int), .int .i64 (dr : Int), .int .i64 dx, .int .i64 n] _ (fun w h => h) Tryd.underlying30 rfl (by kernel_rfl)) (unhide HS) ?_
  go_simp
  have k0 := insR 0 _ (unhide HS) rfl
  refine wpAnyL_one (i := 3) (by kernel_rfl) rfl (fun K2 hK => ?_)
  go_simp
  refine hK.out _ _ (fun _ => unhide HS) ?_
  clear hK K2 k0
  refine wpAnyL_one (i := 4) (by kernel_rfl) rfl (fun K2 hK => ?_)
  go_simp
  refine (unhide AO _).mono ?_
  rintro e w6 ⟨b, rfl, ab, b6⟩
  have H6 := hide ((unhide H5).later b6)
  have F6 := hide ((unhide F5).trans (Fm.of b6))
  have R6 := hide (row_lat (unhide HS) b6)
  have DVC := hide (unhide DV _ _ _ (unhide H6) ab)
  generalize actV op b = av at DVC ⊢
  refine hK.out _ _ (fun _ => unhide R6) ?_
  clear hK K2 ab b6 DV AO HS
  rcases unhide DVC with ⟨fn, rfl, hcf, hc⟩ | ⟨fn, rfl, hcf, hc⟩
  · have HC := hide hc
    clear hc DVC
    refine wpAnyL_one (i := 7) (by kernel_rfl) rfl (fun K2 hK => ?_)
    go_simp
    refine (unhide HC).mono ?_
    rintro e w7 ⟨y7, rfl, a7⟩
    have A7 := hide a7
    refine hK.out _ _ (fun h => absurd h (by decide)) ?_
    clear hK K2 a7
    refine wpAnyL_takeW (i := 8) (v := .bool okd) rfl (by kernel_rfl) (by kernel_rfl) (by kernel_rfl) (by kernel_rfl) (fun _ _ _ h => h) (Or.inl ⟨by rfl, fun w hc => ?_⟩) (.inr (by decide)) ?_
    · clear hc; go_simp
    go_simp
    refine wpAnyL_takeW (i := 9) (v := .bool okd) rfl (by kernel_rfl) (by kernel_rfl) (by kernel_rfl) (by kernel_rfl) (fun _ _ _ h => h) (Or.inl ⟨by rfl, fun w hc => ?_⟩) (.inr (by decide)) ?_
    · clear hc; go_simp
    go_simp
    refine wpAnyL_done (by kernel_rfl) ?_ _
    go_wp2
    go_ret
    have FD := (unhide F6).trans (unhide A7).fm
    first | exact ⟨y7, rfl, ⟨fun h => (unhide A7).yes h, FD⟩⟩ | exact ⟨rfl, y7, ⟨fun h => (unhide A7).yes h, FD⟩⟩
  · have HC := hide hc
    clear hc DVC
    refine wpAnyL_one (i := 7) (by kernel_rfl) rfl (fun K2 hK => ?_)
    go_simp
    refine (unhide HC).mono ?_
    rintro e w7 ⟨y7, rfl, a7⟩
    have A7 := hide a7
    refine hK.out _ _ (fun h => absurd h (by decide)) ?_
    clear hK K2 a7
    refine wpAnyL_takeW (i := 8) (v := .bool okd) rfl (by kernel_rfl) (by kernel_rfl) (by kernel_rfl) (by kernel_rfl) (fun _ _ _ h => h) (Or.inl ⟨by rfl, fun w hc => ?_⟩) (.inr (by decide)) ?_
    · clear hc; go_simp
    go_simp
    refine wpAnyL_takeW (i := 9) (v := .bool okd) rfl (by kernel_rfl) (by kernel_rfl) (by kernel_rfl) (by kernel_rfl) (fun _ _ _ h => h) (Or.inl ⟨by rfl, fun w hc => ?_⟩) (.inr (by decide)) ?_
    · clear hc; go_simp
    go_simp
    refine wpAnyL_done (by kernel_rfl) ?_ _
    go_wp2
    go_ret
    have FD := (unhide F6).trans (unhide A7).fm
    first | exact ⟨y7, rfl, ⟨fun h => (unhide A7).yes h, FD⟩⟩ | exact ⟨rfl, y7, ⟨fun h => (unhide A7).yes h, FD⟩⟩
theorem stepI_any (g B gr rc : Nat) (y : Mv) (t : Ms) (st : Int) (w : World) (h : Pz w g B gr rc y t st t.d.m) (hk : Dk t.d) (ht : Tab w) (hB : 0 < B) : Calls Tryd.prog 32 #[.pointer (some ⟨g, 0, none⟩)] w (DoE g B y t.stp (t.stpS st) t.stpB w) := by
  unfold Ms.stpB Ms.insB
  cases h1 : adB (nAt t.d.r 7)
  · exact step_odd g B gr rc y t st w h hk ht hB h1 _ _
  · cases h2 : decOk t.d.m (nAt t.d.r 7 / 2)
    · exact step_none g B gr rc y t st w h hk ht hB h1 h2 _ _
    · have hok : t.ins.ok = true := by unfold Ms.ins; unfold decOk at h2; simp only [Bool.and_eq_true] at h2; exact h2.2.2
      obtain ⟨op, sm, sr, dm, dr, e1, e2, e3, e4, e5, hi⟩ := is_nat hok
      have hx : t.ins = ⟨op, ⟨sm, sr, t.ins.s.x⟩, ⟨dm, dr, t.ins.d.x⟩, t.ins.n⟩ := by rw [← e1, ← e2, ← e3, ← e4, ← e5]
      have q := step_do g B gr rc y t st w h hk ht hB h1 h2 op sm sr dm dr _ _ _ hx hi
      unfold Ms.stp Ms.stpS
      rw [show t.ins.op.toNat = op by omega, show t.ins.s.m.toNat = sm by omega, show t.ins.s.r.toNat = sr by omega, show t.ins.d.m.toNat = dm by omega, show t.ins.d.r.toNat = dr by omega]
      exact q
end Go.Proofs.YtboedaofbchdkaaDoor
