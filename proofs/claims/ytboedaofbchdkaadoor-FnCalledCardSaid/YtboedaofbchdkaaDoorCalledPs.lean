/- For every slice of bytes the law on who is called answers true: the call by a register, done by the program's own Step and Run, goes to the address, keeps the way back in the register and what it had on the stack, and comes back. No condition but what the card ties: the table of first words is as the program lays it. -/
import Derived.Test.YtboedaofbchdkaaDoorRows
import Derived.Test.YtboedaofbchdkaaDoorPsA
import Derived.Test.YtboedaofbchdkaaDoorPsB
import Derived.Test.YtboedaofbchdkaaDoorPsC
import Derived.Test.YtboedaofbchdkaaDoorPsD
import Derived.Test.YtboedaofbchdkaaDoorPsE
import Derived.Test.YtboedaofbchdkaaDoorPsF
import Derived.Test.YtboedaofbchdkaaDoorPsG
import Derived.Test.YtboedaofbchdkaaDoorPsH
import Derived.Test.YtboedaofbchdkaaDoorPsI
import Derived.Test.YtboedaofbchdkaaDoorPsJ
import Derived.Test.YtboedaofbchdkaaDoorPsK
import Derived.Test.YtboedaofbchdkaaDoorPsL
import Derived.Test.YtboedaofbchdkaaDoorPsM
import Derived.Test.YtboedaofbchdkaaDoorPsN
import Derived.Test.YtboedaofbchdkaaDoorPsO
import Derived.Deep.RegionHeld
import Derived.Test.YtboedaofbchdkaaDoorTie
import Derived.Test.YtboedaofbchdkaaDoorCards
import Derived.SevenTiedAt
import Derived.Lay
import Derived.MakeChecks
import Derived.OpenVars
import Derived.WalkKit
import Derived.ProofKit
import Derived.OpenShut
import Derived.ShutString
import Derived.ChangeOld
import Derived.Below
namespace Go.Proofs.YtboedaofbchdkaaDoor.fnCalled
open Go.ChangeShapes Go.WideShapes Go.ChangeAt Go.RowKit
open Go.ChangeMaps (open_string shut_string)
set_option linter.unusedVariables false
set_option maxRecDepth 8000

structure Bl (W wr : World) : Prop where
  bel : Below W.heap.size W wr
theorem Bl.later {W wr w' : World} (h : Bl W wr) (hb : Below wr.heap.size wr w') : Bl W w' := ⟨h.bel.trans (hb.mono h.bel.size)⟩
set_option maxRecDepth 100000 in
set_option maxHeartbeats 16000000 in
theorem walk (a : Option Addr) (len cap : Nat) (zs : List Int) (W : World) (r0 : IsRow .u8 W a len cap zs) (ht : Tab W) :
    Calls Tryd.prog 4 #[.slice a len cap] W fun e W' => e = .returned (.bool true) ∧ Below W.heap.size W W' := by
  obtain ⟨xs, hl, lc, mcap, hr⟩ := rd_of_row r0
  obtain ⟨i0, hi, hz0, hz1, hz2⟩ := info_parts info3
  unfold maxLen at mcap
  have L := hide (show Lc W W a xs from ⟨Below.refl _ _, hr⟩)
  have TB := hide ht
  clear r0 hr ht
  have BG := hide (fun w => big_free a len cap w (by omega))
  by_cases hbig : len ≤ 1048576
  rotate_left
  · have hd : decide ((1048576 : Int) < (len : Int)) = true := by simp; omega
    rw [hd] at BG
    clear L hd
    go_enter Tryd.func4, Tryd.ntmps4
    go_wp2_with (go_at_call 6; refine (unhide BG _).mono ?_; rintro e w' ⟨rfl, rfl⟩)
    go_ret
    exact ⟨rfl, Below.refl _ _⟩
  have hd : decide ((1048576 : Int) < (len : Int)) = false := by simp; omega
  rw [hd] at BG
  have A2 := hide (fun w hr => at_any a len cap 2 xs w (by omega) hl hbig hr)
  obtain ⟨p2, q2⟩ := atV_bd xs 2
  generalize atV xs 2 = z2 at A2 p2 q2
  clear hd hl hbig lc mcap
  go_enter Tryd.func4, Tryd.ntmps4
  go_wp2_with (first | (go_at_call 6; refine (unhide BG _).mono ?_; rintro e w' ⟨rfl, hw'⟩; rw [hw']; clear hw' w'))
  refine (unhide A2 _ (unhide L).rd).mono ?_
  rintro e w' ⟨rfl, hw'⟩
  rw [hw']
  clear hw' w'
  go_wp2_with fail
  clear A2 BG
  obtain ⟨r, hr⟩ := Int.eq_ofNat_of_zero_le (show 0 ≤ z2 % 6 by omega)
  have hr6 : r < 6 := by omega
  rw [hr]
  clear hr p2 q2 L
  have P1 := hide (show Calls Tryd.prog 8 #[.agg #[.int .i64 15, .int .i64 0, .int .i64 0, .int .i64 0, .int .i64 3, .int .i64 7, .int .i64 80, .int .i64 (r : Int)]] W fun e w2 => ∃ v, e = .returned v ∧ v ≠ .slice none 0 0 ∧ OwnN w2 W.heap.size v [2079 + 64 * (r : Int), 80] ∧ Below W.heap.size W w2 from by have q := encI_any (cI r) W (unhide TB); rw [c_enc r hr6] at q; exact q)
  obtain ⟨ns, hns⟩ : ∃ ns : List Int, ns = [2079 + 64 * (r : Int), 80] := ⟨_, rfl⟩
  rw [← hns] at P1
  have lns : ns.length = 2 := by rw [hns]; rfl
  have HNS := hide hns
  clear hns
  refine (unhide P1).mono ?_
  rintro e w4 ⟨v4, rfl, hne4, own4, hb4⟩
  have s4 := hb4.size
  have hob : ∀ g, v4.ownBlock = some g → W.heap.size ≤ g := fun g e => (own4.lt e).1
  have L4 := hide ((show Bl W w4 from ⟨hb4⟩).later (below_new w4 (.cells #[.int .i64 0] 3)))
  have O4 := hide (own4.later (below_new w4 (.cells #[.int .i64 0] 3)))
  have K4 := hide (World.ownsRow.cells (own_one w4 0) rfl)
  obtain ⟨fs, hfs⟩ : ∃ fs : List Int, fs = [0] := ⟨_, rfl⟩
  rw [← hfs] at K4
  have lfs : fs.length = 1 := (by rw [hfs]; rfl)
  have HFS := hide hfs
  clear hfs own4 hb4 P1
  have STAGE1 := trivial
  go_wp2_with (first | (at_builtin; clear STAGE1; go_must (refine wpList_append_own _ rfl _ _ 25 rfl W.heap.size 3 i0 (.int .i64 0) 1 8 Tryd.underlying25 hi hz0 hz1 hz2 rfl (by decide) v4 ns.length (cellsN ns) rfl (unhide O4) ⟨w4.heap.size, 0, none⟩ 1 1 (cellsN fs) rfl (by rw [cellsN_length]; omega) (unhide K4) (cellsN_one _) (by unfold maxLen; omega) (by omega) (by first | omega | (simp; omega)) ?_; intro v9 w9 hown hgrow hnil; have HV9 : v9 ≠ .slice none 0 0 := (fun e => by have := hnil.1 e; exact hne4 this.1); have O10 := hide (show OwnN w9 W.heap.size v9 (cW r) from (by have q : OwnN w9 W.heap.size v9 (ns ++ fs) := (by unfold OwnN; rw [cellsN_append, List.length_append, lfs]; exact hown); rw [unhide HNS, unhide HFS] at q; exact q)); have L10 := hide (show Bl W w9 from ⟨(unhide L4).bel.grown hgrow (unhide L4).bel.size hob⟩); obtain ⟨g9, cap9, hv9⟩ : ∃ g c, v9 = .slice (some ⟨g, 0, none⟩) 3 c := (by rcases (unhide O10).form with ⟨e, _⟩ | ⟨g, c, e, _⟩ <;> first | exact absurd e HV9 | exact ⟨g, c, e⟩); subst hv9; clear hown hgrow hnil K4 O4 L4 hne4 HV9 hob HNS HFS)))
  have N1 := hide (show OwnN (w9.alloc (Obj.cells #[] 3)) W.heap.size (Sl.v ⟨some ⟨g9, 0, none⟩, 3, cap9⟩) (cW r) from (unhide O10).later (below_new w9 _))
  have N2 := hide (show OwnN (w9.alloc (Obj.cells #[] 3)) w9.heap.size (Sl.v ⟨some ⟨w9.heap.size, 0, none⟩, 0, 0⟩) [] from ownN_empty w9)
  have P := hide (newI_any ⟨some ⟨g9, 0, none⟩, 3, cap9⟩ ⟨some ⟨w9.heap.size, 0, none⟩, 0, 0⟩ (cW r) [] 64 64 (w9.alloc (Obj.cells #[] 3)) (unhide N1).rdS (unhide N2).rdS rfl rfl (by show (3 : Nat) ≤ 1048576; omega) (by show (0 : Nat) ≤ 1048576; omega) (unhide N2).nz)
  rw [c_new r hr6] at P
  have L := hide ((unhide L10).later (below_new w9 (Obj.cells #[] 3)))
  clear L10 O10 N1 N2
  refine (unhide P).mono ?_
  rintro e w10 ⟨m, rfl, fm, om, hb⟩
  have SM := hide (dk_of (c_ok r hr6)).1.small
  have HW10 := hide ((unhide L).later hb).bel.size
  have L2 := hide (((unhide L).later hb).later (below_new w10 (.cells m.cs 32)))
  have RM := hide (heap_alloc_last w10 (.cells m.cs 32))
  have ox := om.later (below_new w10 (.cells m.cs 32))
  have WR := hide (writeI_any m (cN r) 80 (128 + (r : Int)) (w10.alloc (.cells m.cs 32)) (small_mv ox.rd (show (cN r).small from ⟨by have := (unhide SM).1; simpa [cD, cN] using this, (show (8 : Nat) ≤ 1048576 by omega), (show (0 : Nat) ≤ 1048576 by omega), (show (0 : Nat) ≤ 1048576 by omega)⟩)) ox.nz ox.rd)
  rw [c_has r hr6, c_put r hr6] at WR
  have FM := hide (show m.fl = (false, false, false, false, 0) from fm)
  have SL := hide (unhide L2).bel.size
  clear fm om hb P L ox
  go_wp2_with (first | (refine wpList_store_new rfl 32 _ _ rfl m.cs rfl rfl _ (by kernel_rfl) rfl (Mv.cs_one _) ?_) | (refine wpList_load_row rfl 32 _ rfl w10.heap.size rfl 32 m.cs (0, 0) _ (unhide RM) Tryd.underlying32 rfl (by kernel_rfl) ?_))
  refine (unhide WR).mono ?_
  rintro e w12 ⟨y, rfl, fy, oy, hb⟩
  have hg0 : w10.heap.size + 1 ≤ w12.heap.size := by have := hb.size; simpa using this
  have RB := hide (row_lat (unhide RM) hb)
  have L3 := hide ((unhide L2).later hb)
  have FY := hide (fy.trans (unhide FM))
  have L4 := hide (show Bl W (w12.setRow w10.heap.size y.cs) from ⟨below_setRow (unhide L3).bel (unhide HW10) y.cs⟩)
  have O2 := hide (show OwnM (w12.setRow w10.heap.size y.cs) (w10.heap.size + 1) y (cP r) from (oy.base (by simp)).row (by omega) _)
  have RB2 := hide (setRow_heap w12 w10.heap.size _ y.cs 32 _ (unhide RB))
  obtain ⟨gr, rc, er0, _⟩ := own_formL (unhide O2).r (by show 0 < 8; omega)
  have er : y.r = ⟨some ⟨gr, 0, none⟩, 8, rc⟩ := er0
  clear er0
  obtain ⟨o3, g3, lo3, lt3, ca3, fz3⟩ := own_setR (unhide O2) er r 1234 (by show r < 8; omega)
  have cr := row_r (unhide RB2)
  rw [er] at cr
  have i1 : (r : Int) < 8 := by omega
  have i2 : ¬ (8 : Int) ≤ (r : Int) := by omega
  have RB3 := hide (row_keep (b := gr) (j := r) (u := .int .i64 1234) (unhide RB2) (by omega))
  have O3 := hide (show OwnM ((w12.setRow w10.heap.size y.cs).setCell ⟨gr, r, none⟩ (.int .i64 1234)) (w10.heap.size + 1) y (cD r) from o3)
  have L5 := hide (show Bl W ((w12.setRow w10.heap.size y.cs).setCell ⟨gr, r, none⟩ (.int .i64 1234)) from ⟨(unhide L4).bel.setCell (p := ⟨gr, r, none⟩) (show W.heap.size ≤ gr by have := unhide HW10; omega) (.int .i64 1234)⟩)
  have SY := hide (small_mv (unhide O3).rd (unhide SM))
  have EM := hide (show y.ms (cD r) = cS r ∧ y.st = 0 from ⟨by unfold Mv.ms; rw [show y.n = false from congrArg (·.1) (unhide FY), show y.z = false from congrArg (·.2.1) (unhide FY), show y.v = false from congrArg (·.2.2.1) (unhide FY), show y.c = false from congrArg (·.2.2.2.1) (unhide FY)]; rfl, congrArg (·.2.2.2.2) (unhide FY)⟩)
  have ST := hide (stepI_all y (cD r) ((w12.setRow w10.heap.size y.cs).setCell ⟨gr, r, none⟩ (.int .i64 1234)) (unhide SY) (unhide O3).nz (unhide O3).rd ((unhide TB).later (unhide L5).bel))
  rw [(unhide EM).1, (unhide EM).2] at ST
  unfold StIs at ST
  have RN := hide (fun v (o : OwnM v (w10.heap.size + 1) y (cD r)) (tb : Tab v) => (show RnIs y 3 (Ms.it 3 (cS r) 0).1.d ((Ms.it 3 (cS r) 0).1.fl (Ms.it 3 (cS r) 0).2) v from by have q := runI_any y (cD r) 3 v (unhide SY) o.nz o.rd tb; rw [(unhide EM).1, (unhide EM).2, show (3 : Int) = ((3 : Nat) : Int) from rfl, rn_in _ _ 3 (by omega)] at q; exact q))
  unfold RnIs at RN
  have X7 := hide (c_x7 r hr6)
  have XR := hide (c_xr r hr6)
  have X6 := hide (c_x6 r hr6)
  have XL := hide (c_xl r hr6)
  have YS := hide (c_ys r hr6)
  have YR := hide (c_yr r hr6)
  have Y6 := hide (c_y6 r hr6)
  have YL := hide (c_yl r hr6)
  generalize (cS r).stN 0 = S1 at ST
  generalize (cS r).stA 0 = T1 at ST X7 XR X6 XL
  generalize Ms.it 3 (cS r) 0 = T3 at RN YS YR Y6 YL
  clear fy oy hb WR FM L3 L2 RM o3 g3 lo3 lt3 SL EM FY SY SM L4 O2
  go_wp2_with (first | (refine wpList_store_row rfl 32 _ _ rfl w10.heap.size y.cs rfl rfl 32 m.cs (unhide RB) (by kernel_rfl) rfl (Mv.cs_one _) ?_) | (refine wpList_load_row rfl 32 _ rfl w10.heap.size rfl 32 y.cs (0, 0) _ (unhide RB3) Tryd.underlying32 rfl (by kernel_rfl) ?_))
  refine (unhide ST).mono ?_
  rintro e w15 ⟨x, rfl, fx, ox, hb⟩
  have T_ := hide ((unhide L5).later hb)
  clear L5
  have L5 := hide (unhide T_)
  clear T_
  have T_ := hide (row_lat (unhide RB3) hb)
  clear RB3
  have RB3 := hide (unhide T_)
  clear T_
  have T_ := hide ((unhide O3).later hb)
  clear O3
  have O3 := hide (unhide T_)
  clear T_
  have OX := hide ox
  have RX := hide (heap_alloc_last w15 (.cells x.cs 32))
  have T_ := hide ((unhide L5).later (below_new w15 (.cells x.cs 32)))
  clear L5
  have L5 := hide (unhide T_)
  clear T_
  have T_ := hide (row_lat (unhide RB3) (below_new w15 (.cells x.cs 32)))
  clear RB3
  have RB3 := hide (unhide T_)
  clear T_
  have T_ := hide ((unhide O3).later (below_new w15 (.cells x.cs 32)))
  clear O3
  have O3 := hide (unhide T_)
  clear T_
  have T_ := hide ((unhide OX).later (below_new w15 (.cells x.cs 32)))
  clear OX
  have OX := hide (unhide T_)
  clear T_
  clear ST fx ox hb cr ca3 fz3 RB RB2
  have R2 := hide (unhide RN (w15.alloc (.cells x.cs 32)) (unhide O3) ((unhide TB).later (unhide L5).bel))
  clear RN
  go_wp2_with (first | (refine wpList_store_new rfl 32 _ _ rfl x.cs rfl rfl _ (by kernel_rfl) rfl (Mv.cs_one _) ?_) | (refine wpList_load_row rfl 32 _ rfl w10.heap.size rfl 32 y.cs (0, 0) _ (unhide RB3) Tryd.underlying32 rfl (by kernel_rfl) ?_))
  refine (unhide R2).mono ?_
  rintro e w16 ⟨z, rfl, fz, oz, hb⟩
  have T_ := hide ((unhide L5).later hb)
  clear L5
  have L5 := hide (unhide T_)
  clear T_
  have T_ := hide (row_lat (unhide RB3) hb)
  clear RB3
  have RB3 := hide (unhide T_)
  clear T_
  have T_ := hide ((unhide O3).later hb)
  clear O3
  have O3 := hide (unhide T_)
  clear T_
  have T_ := hide ((unhide OX).later hb)
  clear OX
  have OX := hide (unhide T_)
  clear T_
  have T_ := hide (row_lat (unhide RX) hb)
  clear RX
  have RX := hide (unhide T_)
  clear T_
  have OZ := hide oz
  have RZ := hide (heap_alloc_last w16 (.cells z.cs 32))
  have T_ := hide ((unhide L5).later (below_new w16 (.cells z.cs 32)))
  clear L5
  have L5 := hide (unhide T_)
  clear T_
  have T_ := hide (row_lat (unhide RB3) (below_new w16 (.cells z.cs 32)))
  clear RB3
  have RB3 := hide (unhide T_)
  clear T_
  have T_ := hide ((unhide O3).later (below_new w16 (.cells z.cs 32)))
  clear O3
  have O3 := hide (unhide T_)
  clear T_
  have T_ := hide ((unhide OX).later (below_new w16 (.cells z.cs 32)))
  clear OX
  have OX := hide (unhide T_)
  clear T_
  have T_ := hide (row_lat (unhide RX) (below_new w16 (.cells z.cs 32)))
  clear RX
  have RX := hide (unhide T_)
  clear T_
  have T_ := hide ((unhide OZ).later (below_new w16 (.cells z.cs 32)))
  clear OZ
  have OZ := hide (unhide T_)
  clear T_
  have cs8 := row_st (unhide RZ)
  rw [show z.st = 1 from (congrArg (·.2.2.2.2) fz).trans (unhide YS)] at cs8
  obtain ⟨hx, cx, ex, _⟩ := own_formL (unhide OX).r (by rw [unhide XL]; omega)
  rw [unhide XL] at ex
  have Nx := hide (show OwnN _ _ (.slice (some ⟨hx, 0, none⟩) 8 cx) T1.d.r from by have q := (unhide OX).r; rw [show x.r.v = .slice (some ⟨hx, 0, none⟩) 8 cx from by rw [ex]; rfl] at q; exact q)
  have rx := row_r (unhide RX)
  rw [ex] at rx
  obtain ⟨hz, cz, ez, _⟩ := own_formL (unhide OZ).r (by rw [unhide YL]; omega)
  rw [unhide YL] at ez
  have Nz := hide (show OwnN _ _ (.slice (some ⟨hz, 0, none⟩) 8 cz) T3.1.d.r from by have q := (unhide OZ).r; rw [show z.r.v = .slice (some ⟨hz, 0, none⟩) 8 cz from by rw [ez]; rfl] at q; exact q)
  have rz := row_r (unhide RZ)
  rw [ez] at rz
  have q1 := ((unhide Nx).cellAt 7 (by rw [unhide XL]; omega)).1
  rw [unhide X7] at q1
  have q2 := ((unhide Nx).cellAt r (by rw [unhide XL]; omega)).1
  rw [unhide XR] at q2
  have q3 := ((unhide Nx).cellAt 6 (by rw [unhide XL]; omega)).1
  rw [unhide X6] at q3
  have q4 := ((unhide Nz).cellAt r (by rw [unhide YL]; omega)).1
  rw [unhide YR] at q4
  have q5 := ((unhide Nz).cellAt 6 (by rw [unhide YL]; omega)).1
  rw [unhide Y6] at q5
  have BL := hide (unhide L5).bel
  clear R2 fz oz hb L5 RB3 O3 OX RX OZ RZ ex ez Nx Nz X7 XR X6 XL YS YR Y6 YL
  go_wp2_with (first | (refine wpList_store_new rfl 32 _ _ rfl z.cs rfl rfl _ (by kernel_rfl) rfl (Mv.cs_one _) ?_))
  go_ret
  exact ⟨rfl, unhide BL⟩

set_option maxRecDepth 100000 in
theorem lifted (os : Os) (started : os.Started) (H : Type) (enc : TypeId × Value → H) :
    ReturnsInHanded {} Tryd.checked os 4 .any (fun w args => (Rows.fnCalledSpec.pre enc Tryd.prog Tryd.f4 [] false w args ∧ laidMetH Tryd.prog Rows.fnCalledRow.laid w) ∧ sizedMet enc Tryd.prog Tryd.f4 (OpenSpec.ofChange Rows.fnCalledSpec) false w args)
      (Rows.fnCalledSpec.post enc Tryd.prog Tryd.f4 false true false false) := by
  refine returnsInHanded_of_change_and (C := Tryd.checked) (X := fun w _ => laidMetH Tryd.prog Rows.fnCalledRow.laid w) (fun _ _ _ hh h => h.of_heap hh) own started (by kernel_rfl) Tryd.func4
    (ChangeSpec.witness_shaped (enc := enc) (C := Tryd.checked) (os := os) (X := fun w _ => laidMetH Tryd.prog Rows.fnCalledRow.laid w) false (World.laidAll Tryd.prog os Rows.fnCalledRow.laid) #[.slice none 0 0] 8 (World.laidAll_os _ _ _)
      (World.shaped_of_ZipB (by kernel_rfl) (by kernel_rfl)) (by kernel_rfl) (by kernel_rfl) (by kernel_rfl)
      (by rw [MakeChecks.laidMetH_plain _ _ _ (by kernel_rfl)]; exact laidMet_laidAll _ (by kernel_rfl) (by kernel_rfl))) ?_
  intro W base args ds gs before hval0 hW _ _ hL _
  have hval : ∀ (j : Nat) t v, Tryd.f4.params[j]? = some t → args[j]? = some v → Value.okWide Tryd.prog W .any base t v := hval0
  have hW' := hW
  obtain ⟨p, q, hA0, hV, rfl, hfz, hnd⟩ := hW
  have hA : DataW.TrodAll enc Tryd.prog W 0 (fun _ => true) true Tryd.f4.params.toList args.toList ds p := hA0
  rw [Tryd.params4] at hA hval
  obtain ⟨v0, vs0, d0, ds0, p0, q0, hargs, rfl, rfl, h0, r0⟩ := trodAll_cons hA
  obtain ⟨rfl, rfl, rfl⟩ := trodAll_nil r0
  obtain rfl : args = #[v0] := by cases args; simp_all
  have kV := hV
  obtain ⟨gv, tv, cv, fv, dv, pv, rfl, _⟩ := trodVars_one hV
  have k0 := h0
  have lt0 : ∀ x ∈ p0, x.block < W.heap.size := by obtain ⟨m, hm⟩ := k0; exact DataW.trod_lt m _ _ _ hm
  obtain ⟨a0, len0, cap0, rfl⟩ := okWide_slice Tryd.underlying22 (hval 0 22 v0 rfl rfl)
  obtain ⟨z0, w0⟩ : ∃ zs, IsRow .u8 W a0 len0 cap0 zs := by
    obtain ⟨fuel, hf⟩ := h0
    rcases open_ints Tryd.underlying22 Tryd.underlying5 (by kernel_rfl) hf with ⟨hcs, _⟩ | ⟨x, l, c, zs, hcs, _, hl, hm, hz, _, hcell, hwz⟩
    · simp [Value.cells] at hcs
      obtain ⟨rfl, rfl, rfl⟩ := hcs
      exact ⟨[], .inl ⟨rfl, rfl, rfl, rfl⟩⟩
    · simp [Value.cells] at hcs
      obtain ⟨rfl, rfl, rfl⟩ := hcs
      exact ⟨zs, .inr ⟨_, rfl, hl, hm, by simpa using hz, hcell, hwz⟩⟩
  clear hA0 hval0
  refine (walk a0 len0 cap0 z0 W w0 (tab_of_laid hL)).mono fun e W' ⟨he, bel⟩ => ?_
  subst he
  exact ⟨_, rfl, _, _, _, [], _, _, hW', trodAll_mk1 (shut_bool Tryd.underlying4 _), (trodAll_cons_mk (Below.trod laidOut (by kernel_rfl) (of_decide_eq_true (by kernel_rfl)) k0 bel lt0) trodAll_mk0), bel.trodVars laidOut (by kernel_rfl) kV, bel.frame _, fun h => by cases h⟩

theorem proved : Rows.FnCalledSaid :=
  OpenClaim.holds_of_wide 4 Tryd.f4 rfl rfl rfl rfl rfl rfl rfl ⟨rfl, rfl, rfl, rfl, rfl⟩ rfl rfl rfl rfl rfl (by kernel_rfl) Tryd.func4 (by kernel_rfl)
    (of_decide_eq_true (by kernel_rfl)) (by unfold Func.isWrapper; first | (rw [if_pos (by decide +kernel)]; kernel_rfl) | (rw [if_neg (by decide +kernel)]; exact ⟨rfl, rfl⟩))
    (fun os started H enc _ => lifted os started H enc)
end Go.Proofs.YtboedaofbchdkaaDoor.fnCalled

namespace Go.Proofs.YtboedaofbchdkaaDoor
theorem fnCalled_holds : Rows.FnCalledCardSaid :=
  Claim7.holds_tied_plain_at .later [] [.data] true (true, "cb24694a46e7f430e9675e3c6c7b342cc6b1e44bf21c4b1682b7e211e9362f47") false
    fnCalled.proved (fun _ h => by cases h) (by kernel_rfl) (fun _ h => by cases h) fnCalled_row_tie rfl ⟨rfl, rfl⟩ (by kernel_rfl) rfl
    (fun f fn hf hfn => by
      obtain rfl : f = 4 := Option.some.inj ((show Tryd.prog.funcNamed "loop.example/g00329/laws.FnCalled" = some 4 by kernel_rfl).symm.trans hf) |>.symm
      obtain rfl : fn = Tryd.f4 := (Option.some.inj (Tryd.func4.symm.trans hfn)).symm
      exact ⟨by kernel_rfl, fun j t ht => by
        rw [Tryd.params4] at ht
        have hm : t ∈ [22] := by simpa using Array.mem_of_getElem? ht
        have hall : ([22].all fun u => !Tryd.prog.wantsStandIn u) = true := by kernel_rfl
        exact (show Tryd.prog.wantsStandIn t = false by simpa using List.all_eq_true.1 hall t hm)⟩)
    (by kernel_rfl)
#print axioms fnCalled_holds
end Go.Proofs.YtboedaofbchdkaaDoor
