/- For every machine the law on Outcome answers true: the program tells just the text that the model tells, and writes into nothing that came in. No condition but what the card ties: the listed tables of the library are as its text lays them. -/
import Derived.Test.YtboedaofbchdkaaDoorRows
import Derived.Test.YtboedaofbchdkaaDoorOutE
import Derived.Deep.RegionHeld
import Derived.Test.YtboedaofbchdkaaDoorTie
import Derived.Test.YtboedaofbchdkaaDoorCards
import Derived.SevenTiedAt
import Derived.Lay
import Derived.MakeChecks
import Derived.OpenVars
import Derived.WalkKit
import Derived.ProofKit
import Derived.OpenShut
import Derived.ShutString
import Derived.ChangeOld
import Derived.Below
namespace Go.Proofs.YtboedaofbchdkaaDoor.fnExactOutcome
open Go.ChangeShapes Go.WideShapes Go.ChangeAt Go.RowKit
open Go.ChangeMaps (open_string shut_string)
set_option linter.unusedVariables false
set_option maxRecDepth 8000

set_option maxRecDepth 100000 in
set_option maxHeartbeats 4000000 in
theorem walk (x : Mv) (d : Md) (hl : x.lens) (W : World) (hr : RdM W x d) (hg : W.cell? ⟨3, 7, none⟩ = some (.int .u8 3)) : Calls Tryd.prog 5 #[.agg x.cs] W fun e W' => e = .returned (.bool true) ∧ Below W.heap.size W W' := by
  have L := hide (lw_new hr)
  have TL := hide (show 3 < W.heap.size from World.block_lt_of_cell? W _ hg)
  have TB := hide hg
  have Z := hide (szM_any x (W.alloc (.cells x.cs 38)) hl)
  have SS := hide (fun (y : Mv) v (fy : y.fl = x.fl) (hs : y.small) (r : RdM v y d) => (show OuS y (outS d.o x.st) v from by
    have q := outS_any y d v hs r
    rw [fl_st fy] at q
    exact q))
  have II := hide (fun (y : Mv) v (fy : y.fl = x.fl) (hs : y.small) (r : RdM v y d) (tb : v.cell? ⟨3, 7, none⟩ = some (.int .u8 3)) => (show OuI y (outS d.o x.st) v from by
    have q := outI_any y d v hs r tb
    rw [fl_st fy] at q
    exact q))
  unfold OuS at SS
  unfold OuI at II
  generalize strOf (outS d.o x.st) = F2 at SS II
  clear hr hl hg
  go_enter Tryd.func5, Tryd.ntmps5
  go_wp2_with (first | (refine wpList_load_row rfl 38 _ rfl W.heap.size rfl 38 x.cs (0, 0) _ (unhide L).bx Tryd.underlying38 rfl (by kernel_rfl) ?_))
  refine (unhide Z).mono ?_
  rintro e w1 ⟨l, rfl, hs, hb⟩
  have T_ := hide ((unhide L).later hb)
  clear L
  have L := hide (unhide T_)
  clear T_
  clear hb Z
  by_cases hlt : l < 0
  · clear hs
    go_wp2
    go_ret
    exact ⟨rfl, (unhide L).bel⟩
  have HS := hide (hs (by omega))
  have DS := hide (small_md (unhide L).rd (unhide HS))
  clear hs
  have K := hide (toM_any x d w1 (unhide HS) (unhide L).rd)
  go_wp2_with (first | (refine wpList_load_row rfl 38 _ rfl W.heap.size rfl 38 x.cs (0, 0) _ (unhide L).bx Tryd.underlying38 rfl (by kernel_rfl) ?_))
  refine (unhide K).mono ?_
  rintro e w2 ⟨y, rfl, fy, oy, hb⟩
  have T_ := hide ((unhide L).later hb)
  clear L
  have L := hide (unhide T_)
  clear T_
  clear hb K
  have K := hide (unhide SS y w2 fy (small_mv oy.rd (unhide DS)) oy.rd)
  clear fy oy SS
  go_wp2_with fail
  refine (unhide K).mono ?_
  rintro e w3 ⟨rfl, hb⟩
  have T_ := hide ((unhide L).later hb)
  clear L
  have L := hide (unhide T_)
  clear T_
  clear hb K
  have K := hide (toM_any x d w3 (unhide HS) (unhide L).rd)
  go_wp2_with (first | (refine wpList_load_row rfl 38 _ rfl W.heap.size rfl 38 x.cs (0, 0) _ (unhide L).bx Tryd.underlying38 rfl (by kernel_rfl) ?_))
  refine (unhide K).mono ?_
  rintro e w4 ⟨z, rfl, fz, oz, hb⟩
  have FZ := hide fz
  have T_ := hide ((unhide L).later hb)
  clear L
  have L := hide (unhide T_)
  clear T_
  have OZ := hide oz
  have RZ := hide (heap_alloc_last w4 (.cells z.cs 32))
  have T_ := hide ((unhide L).later (below_new w4 (.cells z.cs 32)))
  clear L
  have L := hide (unhide T_)
  clear T_
  have T_ := hide ((unhide OZ).later (below_new w4 (.cells z.cs 32)))
  clear OZ
  have OZ := hide (unhide T_)
  clear T_
  clear hb oz fz K
  have K := hide (unhide II z (w4.alloc (.cells z.cs 32)) (unhide FZ) (small_mv (unhide OZ).rd (unhide DS)) (unhide OZ).rd (((unhide L).bel.cell (p := ⟨3, 7, none⟩) (unhide TL)).trans (unhide TB)))
  go_wp2_with (first | (refine wpList_store_new rfl 32 _ _ rfl z.cs rfl rfl _ (by kernel_rfl) rfl (Mv.cs_one _) ?_) | (refine wpList_load_row rfl 32 _ rfl w4.heap.size rfl 32 z.cs (0, 0) _ (unhide RZ) Tryd.underlying32 rfl (by kernel_rfl) ?_))
  refine (unhide K).mono ?_
  rintro e w6 ⟨rfl, hb⟩
  have T_ := hide ((unhide L).later hb)
  clear L
  have L := hide (unhide T_)
  clear T_
  have T_ := hide ((unhide OZ).later hb)
  clear OZ
  have OZ := hide (unhide T_)
  clear T_
  have T_ := hide (row_lat (unhide RZ) hb)
  clear RZ
  have RZ := hide (unhide T_)
  clear T_
  clear hb K II
  have K := hide (toM_any x d w6.drew (unhide HS) ((unhide L).later below_drew).rd)
  go_wp2_with fail
  refine wp_region_held_drew (S := fun w' => w'.heap[w4.heap.size]? = some (.cells z.cs 32 (0, 0)) ∧ w'.heap[W.heap.size]? = some (.cells x.cs 38 (0, 0))) (by kernel_rfl) ⟨unhide RZ, (unhide L).bx⟩ (fun hS => ?_)
  have HSS := hide hS
  clear hS
  refine wpAnyH_take (i := 0) (v := .agg z.cs) rfl (by kernel_rfl) (by kernel_rfl) (by kernel_rfl) (fun _ _ _ h => h) (yields_load rfl 32 _ rfl w4.heap.size rfl 32 z.cs _ (fun w h => h.1) Tryd.underlying32 rfl (by kernel_rfl)) (unhide HSS) ?_
  go_simp
  refine wpAnyH_take (i := 1) (v := .agg x.cs) rfl (by kernel_rfl) (by kernel_rfl) (by kernel_rfl) (fun _ _ _ h => h) (yields_load rfl 38 _ rfl W.heap.size rfl 38 x.cs _ (fun w h => h.2) Tryd.underlying38 rfl (by kernel_rfl)) (unhide HSS) ?_
  go_simp
  refine wpAnyH_ready (rs := [2]) (by kernel_rfl) (by simp) ?_
  refine AllReadyH.cons rfl (fun K2 hK => ?_) AllReadyH.nil
  go_simp
  refine (unhide K).mono ?_
  rintro e w7 ⟨u, rfl, fu, ou, hb⟩
  have T_ := hide ((unhide L).later below_drew)
  clear L
  have L := hide (unhide T_)
  clear T_
  have T_ := hide ((unhide OZ).later below_drew)
  clear OZ
  have OZ := hide (unhide T_)
  clear T_
  have T_ := hide (row_lat (unhide RZ) below_drew)
  clear RZ
  have RZ := hide (unhide T_)
  clear T_
  have T_ := hide ((unhide L).later hb)
  clear L
  have L := hide (unhide T_)
  clear T_
  have T_ := hide ((unhide OZ).later hb)
  clear OZ
  have OZ := hide (unhide T_)
  clear T_
  have T_ := hide (row_lat (unhide RZ) hb)
  clear RZ
  have RZ := hide (unhide T_)
  clear T_
  have E6 := hide (eqM_any z u d w7 (fu.trans (unhide FZ).symm) (small_mv (unhide OZ).rd (unhide DS)) (unhide OZ).rd ou.rd)
  refine hK.out _ _ ⟨row_lat (unhide HSS).1 hb, row_lat (unhide HSS).2 hb⟩ (fun hS => ?_)
  have HSN := hide hS
  clear hS hb ou fu hK K2 K HSS
  refine wpAnyH_ready (rs := [3]) (by kernel_rfl) (by simp) ?_
  refine AllReadyH.cons rfl (fun K2 hK => ?_) AllReadyH.nil
  go_simp
  refine (unhide E6).mono ?_
  rintro e w8 ⟨rfl, hb⟩
  have T_ := hide ((unhide L).later hb)
  clear L
  have L := hide (unhide T_)
  clear T_
  have T_ := hide ((unhide OZ).later hb)
  clear OZ
  have OZ := hide (unhide T_)
  clear T_
  have T_ := hide (row_lat (unhide RZ) hb)
  clear RZ
  have RZ := hide (unhide T_)
  clear T_
  refine hK.out _ _ ⟨row_lat (unhide HSN).1 hb, row_lat (unhide HSN).2 hb⟩ (fun hS => ?_)
  have HSS := hide hS
  clear hS hb hK K2 E6 HSN
  refine wpAnyH_take (i := 4) (v := .bool false) rfl (by kernel_rfl) (by kernel_rfl) (by kernel_rfl) (fun _ _ _ h => h) (Or.inl ⟨by rfl, fun w _ => ?_⟩) (unhide HSS) ?_
  · go_simp
  go_simp
  refine wpAnyH_done (by kernel_rfl) ?_ _
  clear HSS
  go_wp2
  go_ret
  exact ⟨rfl, (unhide L).bel⟩

set_option maxRecDepth 100000 in
theorem lifted (os : Os) (started : os.Started) (H : Type) (enc : TypeId × Value → H) :
    ReturnsInHanded {} Tryd.checked os 5 .any (fun w args => (Rows.fnExactOutcomeSpec.pre enc Tryd.prog Tryd.f5 [] false w args ∧ laidMetH Tryd.prog Rows.fnExactOutcomeRow.laid w) ∧ sizedMet enc Tryd.prog Tryd.f5 (OpenSpec.ofChange Rows.fnExactOutcomeSpec) false w args)
      (Rows.fnExactOutcomeSpec.post enc Tryd.prog Tryd.f5 false true false false) := by
  refine returnsInHanded_of_change_and (C := Tryd.checked) (X := fun w _ => laidMetH Tryd.prog Rows.fnExactOutcomeRow.laid w) (fun _ _ _ hh h => h.of_heap hh) ownO started (by kernel_rfl) Tryd.func5
    (ChangeSpec.witness_shaped (enc := enc) (C := Tryd.checked) (os := os) (X := fun w _ => laidMetH Tryd.prog Rows.fnExactOutcomeRow.laid w) false (World.laidAll Tryd.prog os Rows.fnExactOutcomeRow.laid) #[.agg #[.slice none 0 0, .slice none 0 0, .bool false, .bool false, .bool false, .bool false, .slice none 0 0, .slice none 0 0, .int .i64 0]] 8 (World.laidAll_os _ _ _)
      (World.shaped_of_ZipB (by kernel_rfl) (by kernel_rfl)) (by kernel_rfl) (by kernel_rfl) (by kernel_rfl)
      (by rw [MakeChecks.laidMetH_plain _ _ _ (by kernel_rfl)]; exact laidMet_laidAll _ (by kernel_rfl) (by kernel_rfl))) ?_
  intro W base args ds gs before hval0 hW _ _ hL _
  have hval : ∀ (j : Nat) t v, Tryd.f5.params[j]? = some t → args[j]? = some v → Value.okWide Tryd.prog W .any base t v := hval0
  have hW' := hW
  obtain ⟨p, q, hA0, hV, rfl, hfz, hnd⟩ := hW
  have hA : DataW.TrodAll enc Tryd.prog W 0 (fun _ => true) true Tryd.f5.params.toList args.toList ds p := hA0
  rw [Tryd.params5] at hA hval
  obtain ⟨v0, vs0, d0, ds0, p0, q0, hargs, rfl, rfl, h0, r0⟩ := trodAll_cons hA
  obtain ⟨rfl, rfl, rfl⟩ := trodAll_nil r0
  obtain rfl : args = #[v0] := by cases args; simp_all
  obtain ⟨rfl, rfl⟩ := trodVars_none hV
  have k0 := h0
  have lt0 : ∀ x ∈ p0, x.block < W.heap.size := by obtain ⟨m, hm⟩ := k0; exact DataW.trod_lt m _ _ _ hm
  obtain ⟨x0, e0, rfl, g0, y0⟩ := open_mv (hval 0 38 v0 rfl rfl) h0
  clear hA0 hval0
  refine (walk x0 e0 y0 W g0 (tab_of_laidO hL)).mono fun e W' ⟨he, bel⟩ => ?_
  subst he
  exact ⟨_, rfl, _, _, _, [], _, [], hW', trodAll_mk1 (shut_bool Tryd.underlying4 _), (trodAll_cons_mk (Below.trod laidOutO (by kernel_rfl) (of_decide_eq_true (by kernel_rfl)) k0 bel lt0) trodAll_mk0), rfl, bel.frame _, fun h => by cases h⟩

theorem proved : Rows.FnExactOutcomeSaid :=
  OpenClaim.holds_of_wide 5 Tryd.f5 rfl rfl rfl rfl rfl rfl rfl ⟨rfl, rfl, rfl, rfl, rfl⟩ rfl rfl rfl rfl rfl (by kernel_rfl) Tryd.func5 (by kernel_rfl)
    (of_decide_eq_true (by kernel_rfl)) (by unfold Func.isWrapper; first | (rw [if_pos (by decide +kernel)]; kernel_rfl) | (rw [if_neg (by decide +kernel)]; exact ⟨rfl, rfl⟩))
    (fun os started H enc _ => lifted os started H enc)
end Go.Proofs.YtboedaofbchdkaaDoor.fnExactOutcome

namespace Go.Proofs.YtboedaofbchdkaaDoor
theorem fnExactOutcome_holds : Rows.FnExactOutcomeCardSaid :=
  Claim7.holds_tied_plain_at .later [] [.data, .data, .data] true (true, "cb24694a46e7f430e9675e3c6c7b342cc6b1e44bf21c4b1682b7e211e9362f47") false
    fnExactOutcome.proved (fun _ h => by cases h) (by kernel_rfl) (fun _ h => by cases h) fnExactOutcome_row_tie rfl ⟨rfl, rfl⟩ (by kernel_rfl) rfl
    (fun f fn hf hfn => by
      obtain rfl : f = 5 := Option.some.inj ((show Tryd.prog.funcNamed "loop.example/g00329/laws.FnExactOutcome" = some 5 by kernel_rfl).symm.trans hf) |>.symm
      obtain rfl : fn = Tryd.f5 := (Option.some.inj (Tryd.func5.symm.trans hfn)).symm
      exact ⟨by kernel_rfl, fun j t ht => by
        rw [Tryd.params5] at ht
        have hm : t ∈ [38] := by simpa using Array.mem_of_getElem? ht
        have hall : ([38].all fun u => !Tryd.prog.wantsStandIn u) = true := by kernel_rfl
        exact (show Tryd.prog.wantsStandIn t = false by simpa using List.all_eq_true.1 hall t hm)⟩)
    (by kernel_rfl)
#print axioms fnExactOutcome_holds
end Go.Proofs.YtboedaofbchdkaaDoor
