/- For every slice of bytes the law on what is pushed answers true: the program of two moves, by the program's own Encode, MachNew and Run, leaves what was pushed in register 3 and the stack as it was. No condition but what the card ties: the table of first words is as the program lays it. -/
import Derived.Test.YtboedaofbchdkaaDoorRows
import Derived.Test.YtboedaofbchdkaaDoorPsA
import Derived.Test.YtboedaofbchdkaaDoorPsB
import Derived.Test.YtboedaofbchdkaaDoorPsC
import Derived.Test.YtboedaofbchdkaaDoorPsD
import Derived.Test.YtboedaofbchdkaaDoorPsE
import Derived.Test.YtboedaofbchdkaaDoorPsF
import Derived.Test.YtboedaofbchdkaaDoorPsG
import Derived.Test.YtboedaofbchdkaaDoorPsH
import Derived.Test.YtboedaofbchdkaaDoorPsI
import Derived.Test.YtboedaofbchdkaaDoorPsJ
import Derived.Test.YtboedaofbchdkaaDoorPsK
import Derived.Test.YtboedaofbchdkaaDoorPsL
import Derived.Test.YtboedaofbchdkaaDoorPsM
import Derived.Test.YtboedaofbchdkaaDoorPsN
import Derived.Test.YtboedaofbchdkaaDoorPsO
import Derived.Deep.RegionHeld
import Derived.Test.YtboedaofbchdkaaDoorTie
import Derived.Test.YtboedaofbchdkaaDoorCards
import Derived.SevenTiedAt
import Derived.Lay
import Derived.MakeChecks
import Derived.OpenVars
import Derived.WalkKit
import Derived.ProofKit
import Derived.OpenShut
import Derived.ShutString
import Derived.ChangeOld
import Derived.Below
namespace Go.Proofs.YtboedaofbchdkaaDoor.fnPushed
open Go.ChangeShapes Go.WideShapes Go.ChangeAt Go.RowKit
open Go.ChangeMaps (open_string shut_string)
set_option linter.unusedVariables false
set_option maxRecDepth 8000

structure Bl (W wr : World) : Prop where
  bel : Below W.heap.size W wr
theorem Bl.later {W wr w' : World} (h : Bl W wr) (hb : Below wr.heap.size wr w') : Bl W w' := ⟨h.bel.trans (hb.mono h.bel.size)⟩
set_option maxRecDepth 100000 in
set_option maxHeartbeats 16000000 in
theorem walk (a : Option Addr) (len cap : Nat) (zs : List Int) (W : World) (r0 : IsRow .u8 W a len cap zs) (ht : Tab W) :
    Calls Tryd.prog 3 #[.slice a len cap] W fun e W' => e = .returned (.bool true) ∧ Below W.heap.size W W' := by
  obtain ⟨xs, hl, lc, mcap, hr⟩ := rd_of_row r0
  obtain ⟨i0, hi, hz0, hz1, hz2⟩ := info_parts info3
  unfold maxLen at mcap
  have L := hide (show Lc W W a xs from ⟨Below.refl _ _, hr⟩)
  have TB := hide ht
  clear r0 hr ht
  have BG := hide (fun w => big_free a len cap w (by omega))
  by_cases hbig : len ≤ 1048576
  rotate_left
  · have hd : decide ((1048576 : Int) < (len : Int)) = true := by simp; omega
    rw [hd] at BG
    clear L hd
    go_enter Tryd.func3, Tryd.ntmps3
    go_wp2_with (go_at_call 6; refine (unhide BG _).mono ?_; rintro e w' ⟨rfl, rfl⟩)
    go_ret
    exact ⟨rfl, Below.refl _ _⟩
  have hd : decide ((1048576 : Int) < (len : Int)) = false := by simp; omega
  rw [hd] at BG
  have A2 := hide (fun w hr => at_any a len cap 2 xs w (by omega) hl hbig hr)
  have A3 := hide (fun w hr => at_any a len cap 3 xs w (by omega) hl hbig hr)
  obtain ⟨p2, q2⟩ := atV_bd xs 2
  obtain ⟨p3, q3⟩ := atV_bd xs 3
  generalize atV xs 2 = z2 at A2 p2 q2
  generalize atV xs 3 = z3 at A3 p3 q3
  clear hd hl hbig lc mcap
  go_enter Tryd.func3, Tryd.ntmps3
  go_wp2_with (first | (go_at_call 6; refine (unhide BG _).mono ?_; rintro e w' ⟨rfl, hw'⟩; rw [hw']; clear hw' w'))
  refine (unhide A2 _ (unhide L).rd).mono ?_
  rintro e w' ⟨rfl, hw'⟩
  rw [hw']
  clear hw' w'
  go_wp2_with fail
  refine (unhide A3 _ (unhide L).rd).mono ?_
  rintro e w' ⟨rfl, hw'⟩
  rw [hw']
  clear hw' w'
  go_wp2_with fail
  clear A2 A3 BG
  have hn : 0 ≤ z2 * 256 + z3 ∧ z2 * 256 + z3 ≤ 65535 := by omega
  generalize z2 * 256 + z3 = n at hn ⊢
  clear p2 q2 p3 q3
  have HN := hide hn
  clear hn
  have P1 := hide (show Calls Tryd.prog 8 #[.agg #[.int .i64 1, .int .i64 2, .int .i64 7, .int .i64 n, .int .i64 4, .int .i64 6, .int .i64 0, .int .i64 0]] W fun e w2 => ∃ v, e = .returned v ∧ v ≠ .slice none 0 0 ∧ OwnN w2 W.heap.size v [5606, n] ∧ Below W.heap.size W w2 from by have q := encI_any (pI n) W (unhide TB); rw [p_enc (unhide HN)] at q; exact q)
  have P2 := hide (fun v (tb : Tab v) => (show Calls Tryd.prog 8 #[.agg #[.int .i64 1, .int .i64 2, .int .i64 6, .int .i64 0, .int .i64 0, .int .i64 3, .int .i64 0, .int .i64 0]] v fun e w2 => ∃ u, e = .returned u ∧ u ≠ .slice none 0 0 ∧ OwnN w2 v.heap.size u [5507] ∧ Below v.heap.size v w2 from by have q := encI_any pJ v tb; rw [pj_enc] at q; exact q))
  obtain ⟨ns, hns⟩ : ∃ ns : List Int, ns = [5606, n] := ⟨_, rfl⟩
  rw [← hns] at P1
  have lns : ns.length = 2 := by rw [hns]; rfl
  have HNS := hide hns
  clear hns L
  obtain ⟨es, hes⟩ : ∃ es : List Int, es = [5507] := ⟨_, rfl⟩
  rw [← hes] at P2
  have les : es.length = 1 := by rw [hes]; rfl
  have HES := hide hes
  clear hes
  go_wp2_with fail
  refine (unhide P1).mono ?_
  rintro e w4 ⟨v4, rfl, hne4, own4, hb4⟩
  have s4 := hb4.size
  have L4 := hide (show Bl W w4 from ⟨hb4⟩)
  have O4 := hide own4
  have P3 := hide (unhide P2 w4 ((unhide TB).later hb4))
  clear own4 hb4 P1 P2
  go_wp2_with fail
  refine (unhide P3).mono ?_
  rintro e w5 ⟨v5, rfl, hne5, own5, hb5⟩
  have s5 := hb5.size
  have L5 := hide ((unhide L4).later hb5)
  have O5 := hide ((unhide O4).later hb5)
  rcases own5.form with ⟨e, _⟩ | ⟨g5, cap5, rfl, _⟩
  · exact absurd e hne5
  have K5 := hide (World.ownsRow.cells own5 rfl)
  clear own5 hb5 P3 L4 O4 hne5
  have hob : ∀ g, v4.ownBlock = some g → W.heap.size ≤ g := fun g e => ((unhide O5).lt e).1
  have STAGE1 := trivial
  go_wp2_with (first | (at_builtin; clear STAGE1; go_must (refine wpList_append_own _ rfl _ _ 25 rfl W.heap.size 3 i0 (.int .i64 0) 1 8 Tryd.underlying25 hi hz0 hz1 hz2 rfl (by decide) v4 ns.length (cellsN ns) rfl (unhide O5) ⟨g5, 0, none⟩ 1 cap5 (cellsN es) rfl (by rw [cellsN_length]; omega) (unhide K5) (cellsN_one _) (by unfold maxLen; omega) (by omega) (by first | omega | (simp; omega)) ?_; intro v8 w8 hown hgrow hnil; have HV8 : v8 ≠ .slice none 0 0 := (fun e => by have := hnil.1 e; exact hne4 this.1); have O8 := hide (show OwnN w8 W.heap.size v8 (ns ++ es) by unfold OwnN; rw [cellsN_append, List.length_append, les]; exact hown); have L8 := hide (show Bl W w8 from ⟨(unhide L5).bel.grown hgrow (unhide L5).bel.size hob⟩); have s8 := (unhide L8).bel.size; have hob8 : ∀ g, v8.ownBlock = some g → W.heap.size ≤ g := (fun g e => ((unhide O8).lt e).1); have l8 : (ns ++ es).length = 3 := (by rw [List.length_append]; omega); have O9 := hide ((unhide O8).later (below_new w8 (.cells #[.int .i64 0] 3))); have L9 := hide ((unhide L8).later (below_new w8 (.cells #[.int .i64 0] 3))); have K9 := hide (World.ownsRow.cells (own_one w8 0) rfl); clear hown hgrow hnil K5 O5 L5 hne4 hob O8 L8; generalize hms : ns ++ es = ms at l8 O9; have HMS := hide hms; clear hms; obtain ⟨fs, hfs⟩ : ∃ fs : List Int, fs = [0] := ⟨_, rfl⟩; rw [← hfs] at K9; have lfs : fs.length = 1 := (by rw [hfs]; rfl); have HFS := hide hfs; clear hfs; have STAGE2 := trivial)) | (at_builtin; clear STAGE2; go_must (refine wpList_append_own _ rfl _ _ 25 rfl W.heap.size 3 i0 (.int .i64 0) 1 8 Tryd.underlying25 hi hz0 hz1 hz2 rfl (by decide) v8 ms.length (cellsN ms) rfl (unhide O9) ⟨w8.heap.size, 0, none⟩ 1 1 (cellsN fs) rfl (by rw [cellsN_length]; omega) (unhide K9) (cellsN_one _) (by unfold maxLen; omega) (by omega) (by first | omega | (simp; omega)) ?_; intro v9 w9 hown hgrow hnil; have HV9 : v9 ≠ .slice none 0 0 := (fun e => by have := hnil.1 e; exact HV8 this.1); have O10 := hide (show OwnN w9 W.heap.size v9 (pW n) from (by have q : OwnN w9 W.heap.size v9 (ms ++ fs) := (by unfold OwnN; rw [cellsN_append, List.length_append, lfs]; exact hown); rw [← unhide HMS, unhide HNS, unhide HES, unhide HFS] at q; exact q)); have L10 := hide (show Bl W w9 from ⟨(unhide L9).bel.grown hgrow (unhide L9).bel.size hob8⟩); obtain ⟨g9, cap9, hv9⟩ : ∃ g c, v9 = .slice (some ⟨g, 0, none⟩) 4 c := (by rcases (unhide O10).form with ⟨e, _⟩ | ⟨g, c, e, _⟩ <;> first | exact absurd e HV9 | exact ⟨g, c, e⟩); subst hv9; clear hown hgrow hnil K9 O9 L9 HV8 HV9 hob8 HMS HNS HES HFS)))
  have N1 := hide (show OwnN (w9.alloc (Obj.cells #[] 3)) W.heap.size (Sl.v ⟨some ⟨g9, 0, none⟩, 4, cap9⟩) (pW n) from (unhide O10).later (below_new w9 _))
  have N2 := hide (show OwnN (w9.alloc (Obj.cells #[] 3)) w9.heap.size (Sl.v ⟨some ⟨w9.heap.size, 0, none⟩, 0, 0⟩) [] from ownN_empty w9)
  have P := hide (newI_any ⟨some ⟨g9, 0, none⟩, 4, cap9⟩ ⟨some ⟨w9.heap.size, 0, none⟩, 0, 0⟩ (pW n) [] 64 64 (w9.alloc (Obj.cells #[] 3)) (unhide N1).rdS (unhide N2).rdS rfl rfl (by show (4 : Nat) ≤ 1048576; omega) (by show (0 : Nat) ≤ 1048576; omega) (unhide N2).nz)
  rw [p_new (unhide HN)] at P
  have L := hide ((unhide L10).later (below_new w9 (Obj.cells #[] 3)))
  clear L10 O10 N1 N2
  go_wp2_with fail
  refine (unhide P).mono ?_
  rintro e w10 ⟨m, rfl, fm, om, hb⟩
  have L2 := hide ((unhide L).later hb)
  clear L
  have R1 := hide (runI_any m (pS n 0 512 64 (pM n) false false false false).d 3 w10 (small_mv om.rd (p_dk (unhide HN) false false false false).small) om.nz om.rd ((unhide TB).later (unhide L2).bel))
  rw [show m.ms (pS n 0 512 64 (pM n) false false false false).d = pS n 0 512 64 (pM n) false false false false from by unfold Mv.ms; rw [show m.n = false from congrArg (·.1) fm, show m.z = false from congrArg (·.2.1) fm, show m.v = false from congrArg (·.2.2.1) fm, show m.c = false from congrArg (·.2.2.2.1) fm]; rfl, show m.st = 0 from congrArg (·.2.2.2.2) fm, show (3 : Int) = ((3 : Nat) : Int) from rfl, rn_in _ _ 3 (by omega), p_run (unhide HN)] at R1
  unfold RnIs at R1
  have R2 := hide (show Calls Tryd.prog 9 #[.agg m.cs, .int .i64 3] w10 fun e w2 => ∃ y : Mv, e = .returned (.agg y.cs) ∧ y.fl = (sgB n, n == 0, false, false, 1) ∧ OwnE w2 (w10.heap.size + 2) y (pS n n 512 72 ((pM n).set 255 n) (sgB n) (n == 0) false false).d ∧ Below w10.heap.size w10 w2 from unhide R1)
  clear R1 fm om hb P
  go_wp2_with fail
  refine (unhide R2).mono ?_
  rintro e w11 ⟨y, rfl, fy, oy, hb⟩
  have L3 := hide (((unhide L2).later hb).later (below_new w11 (.cells y.cs 32)))
  have RY := hide (heap_alloc_last w11 (.cells y.cs 32))
  have oz := oy.later (below_new w11 (.cells y.cs 32))
  obtain ⟨h1, cc, e0, _⟩ := own_formL oz.r (by show 0 < 8; omega)
  have e1 : y.r = ⟨some ⟨h1, 0, none⟩, 8, cc⟩ := e0
  have X1 := hide (show OwnN _ _ (.slice (some ⟨h1, 0, none⟩) 8 cc) (pS n n 512 72 ((pM n).set 255 n) (sgB n) (n == 0) false false).d.r from by have q := oz.r; rw [show y.r.v = .slice (some ⟨h1, 0, none⟩) 8 cc from by rw [e1]; rfl] at q; exact q)
  have c1 := row_r (unhide RY)
  rw [e1] at c1
  have c3 := ((unhide X1).cellAt 3 (by show 3 < 8; omega)).1
  have c6 := ((unhide X1).cellAt 6 (by show 6 < 8; omega)).1
  rw [show nAt (pS n n 512 72 ((pM n).set 255 n) (sgB n) (n == 0) false false).d.r 3 = n from rfl] at c3
  rw [show nAt (pS n n 512 72 ((pM n).set 255 n) (sgB n) (n == 0) false false).d.r 6 = 512 from rfl] at c6
  have c8 := row_st (unhide RY)
  rw [show y.st = 1 from congrArg (·.2.2.2.2) fy] at c8
  have cn := row_n (unhide RY)
  rw [show y.n = decide (32768 ≤ n) from (congrArg (·.1) fy).trans (p_n (unhide HN))] at cn
  have cz := row_z (unhide RY)
  rw [show y.z = (n == 0) from congrArg (·.2.1) fy] at cz
  have BL := hide (unhide L3).bel
  clear fy oy oz hb R2 L2 e0 e1 X1 RY L3
  go_wp2_with (first | (refine wpList_store_new rfl 32 _ _ rfl y.cs rfl rfl _ (by kernel_rfl) rfl (Mv.cs_one _) ?_))
  go_ret
  exact ⟨rfl, unhide BL⟩

set_option maxRecDepth 100000 in
theorem lifted (os : Os) (started : os.Started) (H : Type) (enc : TypeId × Value → H) :
    ReturnsInHanded {} Tryd.checked os 3 .any (fun w args => (Rows.fnPushedSpec.pre enc Tryd.prog Tryd.f3 [] false w args ∧ laidMetH Tryd.prog Rows.fnPushedRow.laid w) ∧ sizedMet enc Tryd.prog Tryd.f3 (OpenSpec.ofChange Rows.fnPushedSpec) false w args)
      (Rows.fnPushedSpec.post enc Tryd.prog Tryd.f3 false true false false) := by
  refine returnsInHanded_of_change_and (C := Tryd.checked) (X := fun w _ => laidMetH Tryd.prog Rows.fnPushedRow.laid w) (fun _ _ _ hh h => h.of_heap hh) own started (by kernel_rfl) Tryd.func3
    (ChangeSpec.witness_shaped (enc := enc) (C := Tryd.checked) (os := os) (X := fun w _ => laidMetH Tryd.prog Rows.fnPushedRow.laid w) false (World.laidAll Tryd.prog os Rows.fnPushedRow.laid) #[.slice none 0 0] 8 (World.laidAll_os _ _ _)
      (World.shaped_of_ZipB (by kernel_rfl) (by kernel_rfl)) (by kernel_rfl) (by kernel_rfl) (by kernel_rfl)
      (by rw [MakeChecks.laidMetH_plain _ _ _ (by kernel_rfl)]; exact laidMet_laidAll _ (by kernel_rfl) (by kernel_rfl))) ?_
  intro W base args ds gs before hval0 hW _ _ hL _
  have hval : ∀ (j : Nat) t v, Tryd.f3.params[j]? = some t → args[j]? = some v → Value.okWide Tryd.prog W .any base t v := hval0
  have hW' := hW
  obtain ⟨p, q, hA0, hV, rfl, hfz, hnd⟩ := hW
  have hA : DataW.TrodAll enc Tryd.prog W 0 (fun _ => true) true Tryd.f3.params.toList args.toList ds p := hA0
  rw [Tryd.params3] at hA hval
  obtain ⟨v0, vs0, d0, ds0, p0, q0, hargs, rfl, rfl, h0, r0⟩ := trodAll_cons hA
  obtain ⟨rfl, rfl, rfl⟩ := trodAll_nil r0
  obtain rfl : args = #[v0] := by cases args; simp_all
  have kV := hV
  obtain ⟨gv, tv, cv, fv, dv, pv, rfl, _⟩ := trodVars_one hV
  have k0 := h0
  have lt0 : ∀ x ∈ p0, x.block < W.heap.size := by obtain ⟨m, hm⟩ := k0; exact DataW.trod_lt m _ _ _ hm
  obtain ⟨a0, len0, cap0, rfl⟩ := okWide_slice Tryd.underlying22 (hval 0 22 v0 rfl rfl)
  obtain ⟨z0, w0⟩ : ∃ zs, IsRow .u8 W a0 len0 cap0 zs := by
    obtain ⟨fuel, hf⟩ := h0
    rcases open_ints Tryd.underlying22 Tryd.underlying5 (by kernel_rfl) hf with ⟨hcs, _⟩ | ⟨x, l, c, zs, hcs, _, hl, hm, hz, _, hcell, hwz⟩
    · simp [Value.cells] at hcs
      obtain ⟨rfl, rfl, rfl⟩ := hcs
      exact ⟨[], .inl ⟨rfl, rfl, rfl, rfl⟩⟩
    · simp [Value.cells] at hcs
      obtain ⟨rfl, rfl, rfl⟩ := hcs
      exact ⟨zs, .inr ⟨_, rfl, hl, hm, by simpa using hz, hcell, hwz⟩⟩
  clear hA0 hval0
  refine (walk a0 len0 cap0 z0 W w0 (tab_of_laid hL)).mono fun e W' ⟨he, bel⟩ => ?_
  subst he
  exact ⟨_, rfl, _, _, _, [], _, _, hW', trodAll_mk1 (shut_bool Tryd.underlying4 _), (trodAll_cons_mk (Below.trod laidOut (by kernel_rfl) (of_decide_eq_true (by kernel_rfl)) k0 bel lt0) trodAll_mk0), bel.trodVars laidOut (by kernel_rfl) kV, bel.frame _, fun h => by cases h⟩

theorem proved : Rows.FnPushedSaid :=
  OpenClaim.holds_of_wide 3 Tryd.f3 rfl rfl rfl rfl rfl rfl rfl ⟨rfl, rfl, rfl, rfl, rfl⟩ rfl rfl rfl rfl rfl (by kernel_rfl) Tryd.func3 (by kernel_rfl)
    (of_decide_eq_true (by kernel_rfl)) (by unfold Func.isWrapper; first | (rw [if_pos (by decide +kernel)]; kernel_rfl) | (rw [if_neg (by decide +kernel)]; exact ⟨rfl, rfl⟩))
    (fun os started H enc _ => lifted os started H enc)
end Go.Proofs.YtboedaofbchdkaaDoor.fnPushed

namespace Go.Proofs.YtboedaofbchdkaaDoor
theorem fnPushed_holds : Rows.FnPushedCardSaid :=
  Claim7.holds_tied_plain_at .later [] [.data] true (true, "cb24694a46e7f430e9675e3c6c7b342cc6b1e44bf21c4b1682b7e211e9362f47") false
    fnPushed.proved (fun _ h => by cases h) (by kernel_rfl) (fun _ h => by cases h) fnPushed_row_tie rfl ⟨rfl, rfl⟩ (by kernel_rfl) rfl
    (fun f fn hf hfn => by
      obtain rfl : f = 3 := Option.some.inj ((show Tryd.prog.funcNamed "loop.example/g00329/laws.FnPushed" = some 3 by kernel_rfl).symm.trans hf) |>.symm
      obtain rfl : fn = Tryd.f3 := (Option.some.inj (Tryd.func3.symm.trans hfn)).symm
      exact ⟨by kernel_rfl, fun j t ht => by
        rw [Tryd.params3] at ht
        have hm : t ∈ [22] := by simpa using Array.mem_of_getElem? ht
        have hall : ([22].all fun u => !Tryd.prog.wantsStandIn u) = true := by kernel_rfl
        exact (show Tryd.prog.wantsStandIn t = false by simpa using List.all_eq_true.1 hall t hm)⟩)
    (by kernel_rfl)
#print axioms fnPushed_holds
end Go.Proofs.YtboedaofbchdkaaDoor
