/- For every machine the law on Flags answers true: the program answers just the number that the model answers, and writes into nothing that came in -/
import Derived.Test.YtjpbjbnialehbaaRows
import Derived.Test.YtjpbjbnialehbaaLawA
import Derived.Test.YtjpbjbnialehbaaLawB
import Derived.Test.YtjpbjbnialehbaaFlgA
import Derived.Test.YtjpbjbnialehbaaOpenM
import Derived.Test.YtjpbjbnialehbaaMacC
import Derived.Deep.RegionHeld
import Derived.WalkKit
import Derived.ProofKit
import Derived.OpenShut
import Derived.ShutString
import Derived.ChangeOld
import Derived.Below
namespace Go.Proofs.Ytjpbjbnialehbaa.fnExactFlags
open Go.ChangeShapes Go.WideShapes Go.ChangeAt Go.RowKit
open Go.ChangeMaps (open_string shut_string)
set_option linter.unusedVariables false

theorem own : ownKnob Try.prog.godebug = none := by kernel_rfl
theorem laidOut : laidOutB Try.prog = true := by kernel_rfl

theorem flQ_of {y x : Mv} (h : y.fl = x.fl) : flQ y.n y.z y.v y.c = flQ x.n x.z x.v x.c := by
  have h2 := h
  simp only [Mv.fl, Prod.mk.injEq] at h2
  simp only [h2]
set_option maxRecDepth 100000 in
set_option maxHeartbeats 4000000 in
theorem walk (x : Mv) (d : Md) (hl : x.lens) (W : World) (hr : RdM W x d) : Calls Try.prog 6 #[.agg x.cs] W fun e W' => e = .returned (.bool true) ∧ Below W.heap.size W W' := by
  have L := hide (lw_new hr)
  have Z := hide (szM_any x (W.alloc (.cells x.cs 52)) hl)
  have SS := hide (fun (y : Mv) v (fy : y.fl = x.fl) => (show Calls Try.prog 29 #[.agg y.cs] v fun e w' => e = .returned (.int .i64 (flQ x.n x.z x.v x.c)) ∧ Below v.heap.size v w' from by
    have q := flagsS_any y v
    rw [flQ_of fy] at q
    exact q))
  have II := hide (fun (y : Mv) v (fy : y.fl = x.fl) => (show Calls Try.prog 28 #[.agg y.cs] v fun e w' => e = .returned (.int .i64 (flQ x.n x.z x.v x.c)) ∧ Below v.heap.size v w' from by
    have q := flagsI_any y v
    rw [flQ_of fy] at q
    exact q))
  generalize flQ x.n x.z x.v x.c = F2 at SS II
  clear hr hl
  go_enter Try.func6, Try.ntmps6
  go_wp2_with (first | (refine wpList_load_row rfl 52 _ rfl W.heap.size rfl 52 x.cs (0, 0) _ (unhide L).bx Try.underlying52 rfl (by kernel_rfl) ?_))
  refine (unhide Z).mono ?_
  rintro e w1 ⟨l, rfl, hs, hb⟩
  have T_ := hide ((unhide L).later hb)
  clear L
  have L := hide (unhide T_)
  clear T_
  clear hb Z
  by_cases hlt : l < 0
  · clear hs
    go_wp2
    go_ret
    exact ⟨rfl, (unhide L).bel⟩
  have HS := hide (hs (by omega))
  have DS := hide (small_md (unhide L).rd (unhide HS))
  clear hs
  have K := hide (toM_any x d w1 (unhide HS) (unhide L).rd)
  go_wp2_with (first | (refine wpList_load_row rfl 52 _ rfl W.heap.size rfl 52 x.cs (0, 0) _ (unhide L).bx Try.underlying52 rfl (by kernel_rfl) ?_))
  refine (unhide K).mono ?_
  rintro e w2 ⟨y, rfl, fy, oy, hb⟩
  have T_ := hide ((unhide L).later hb)
  clear L
  have L := hide (unhide T_)
  clear T_
  clear hb K
  have K := hide (unhide SS y w2 fy)
  clear fy oy SS
  go_wp2_with fail
  refine (unhide K).mono ?_
  rintro e w3 ⟨rfl, hb⟩
  have T_ := hide ((unhide L).later hb)
  clear L
  have L := hide (unhide T_)
  clear T_
  clear hb K
  have K := hide (toM_any x d w3 (unhide HS) (unhide L).rd)
  go_wp2_with (first | (refine wpList_load_row rfl 52 _ rfl W.heap.size rfl 52 x.cs (0, 0) _ (unhide L).bx Try.underlying52 rfl (by kernel_rfl) ?_))
  refine (unhide K).mono ?_
  rintro e w4 ⟨z, rfl, fz, oz, hb⟩
  have FZ := hide fz
  have T_ := hide ((unhide L).later hb)
  clear L
  have L := hide (unhide T_)
  clear T_
  have OZ := hide oz
  have RZ := hide (heap_alloc_last w4 (.cells z.cs 38))
  have T_ := hide ((unhide L).later (below_new w4 (.cells z.cs 38)))
  clear L
  have L := hide (unhide T_)
  clear T_
  have T_ := hide ((unhide OZ).later (below_new w4 (.cells z.cs 38)))
  clear OZ
  have OZ := hide (unhide T_)
  clear T_
  clear hb oz fz K
  have K := hide (unhide II z (w4.alloc (.cells z.cs 38)) (unhide FZ))
  go_wp2_with (first | (refine wpList_store_new rfl 38 _ _ rfl z.cs rfl rfl _ (by kernel_rfl) rfl (Mv.cs_one _) ?_) | (refine wpList_load_row rfl 38 _ rfl w4.heap.size rfl 38 z.cs (0, 0) _ (unhide RZ) Try.underlying38 rfl (by kernel_rfl) ?_))
  refine (unhide K).mono ?_
  rintro e w6 ⟨rfl, hb⟩
  have T_ := hide ((unhide L).later hb)
  clear L
  have L := hide (unhide T_)
  clear T_
  have T_ := hide ((unhide OZ).later hb)
  clear OZ
  have OZ := hide (unhide T_)
  clear T_
  have T_ := hide (row_lat (unhide RZ) hb)
  clear RZ
  have RZ := hide (unhide T_)
  clear T_
  clear hb K II
  have K := hide (toM_any x d w6.drew (unhide HS) ((unhide L).later below_drew).rd)
  go_wp2_with fail
  refine wp_region_held_drew (S := fun w' => w'.heap[w4.heap.size]? = some (.cells z.cs 38 (0, 0)) ∧ w'.heap[W.heap.size]? = some (.cells x.cs 52 (0, 0))) (by kernel_rfl) ⟨unhide RZ, (unhide L).bx⟩ (fun hS => ?_)
  have HSS := hide hS
  clear hS
  refine wpAnyH_take (i := 0) (v := .agg z.cs) rfl (by kernel_rfl) (by kernel_rfl) (by kernel_rfl) (fun _ _ _ h => h) (yields_load rfl 38 _ rfl w4.heap.size rfl 38 z.cs _ (fun w h => h.1) Try.underlying38 rfl (by kernel_rfl)) (unhide HSS) ?_
  go_simp
  refine wpAnyH_take (i := 1) (v := .agg x.cs) rfl (by kernel_rfl) (by kernel_rfl) (by kernel_rfl) (fun _ _ _ h => h) (yields_load rfl 52 _ rfl W.heap.size rfl 52 x.cs _ (fun w h => h.2) Try.underlying52 rfl (by kernel_rfl)) (unhide HSS) ?_
  go_simp
  refine wpAnyH_ready (rs := [2]) (by kernel_rfl) (by simp) ?_
  refine AllReadyH.cons rfl (fun K2 hK => ?_) AllReadyH.nil
  go_simp
  refine (unhide K).mono ?_
  rintro e w7 ⟨u, rfl, fu, ou, hb⟩
  have T_ := hide ((unhide L).later below_drew)
  clear L
  have L := hide (unhide T_)
  clear T_
  have T_ := hide ((unhide OZ).later below_drew)
  clear OZ
  have OZ := hide (unhide T_)
  clear T_
  have T_ := hide (row_lat (unhide RZ) below_drew)
  clear RZ
  have RZ := hide (unhide T_)
  clear T_
  have T_ := hide ((unhide L).later hb)
  clear L
  have L := hide (unhide T_)
  clear T_
  have T_ := hide ((unhide OZ).later hb)
  clear OZ
  have OZ := hide (unhide T_)
  clear T_
  have T_ := hide (row_lat (unhide RZ) hb)
  clear RZ
  have RZ := hide (unhide T_)
  clear T_
  have E6 := hide (eqM_any z u d w7 (fu.trans (unhide FZ).symm) (small_mv (unhide OZ).rd (unhide DS)) (unhide OZ).rd ou.rd)
  refine hK.out _ _ ⟨row_lat (unhide HSS).1 hb, row_lat (unhide HSS).2 hb⟩ (fun hS => ?_)
  have HSN := hide hS
  clear hS hb ou fu hK K2 K HSS
  refine wpAnyH_ready (rs := [3]) (by kernel_rfl) (by simp) ?_
  refine AllReadyH.cons rfl (fun K2 hK => ?_) AllReadyH.nil
  go_simp
  refine (unhide E6).mono ?_
  rintro e w8 ⟨rfl, hb⟩
  have T_ := hide ((unhide L).later hb)
  clear L
  have L := hide (unhide T_)
  clear T_
  have T_ := hide ((unhide OZ).later hb)
  clear OZ
  have OZ := hide (unhide T_)
  clear T_
  have T_ := hide (row_lat (unhide RZ) hb)
  clear RZ
  have RZ := hide (unhide T_)
  clear T_
  refine hK.out _ _ ⟨row_lat (unhide HSN).1 hb, row_lat (unhide HSN).2 hb⟩ (fun hS => ?_)
  have HSS := hide hS
  clear hS hb hK K2 E6 HSN
  refine wpAnyH_take (i := 4) (v := .bool false) rfl (by kernel_rfl) (by kernel_rfl) (by kernel_rfl) (fun _ _ _ h => h) (Or.inl ⟨by rfl, fun w _ => ?_⟩) (unhide HSS) ?_
  · go_simp
  go_simp
  refine wpAnyH_done (by kernel_rfl) ?_ _
  clear HSS
  go_wp2
  go_ret
  exact ⟨rfl, (unhide L).bel⟩

set_option maxRecDepth 100000 in
theorem lifted (os : Os) (started : os.Started) (H : Type) (enc : TypeId × Value → H) :
    ReturnsInHanded {} Try.checked os 6 .any (Rows.fnExactFlagsSpec.pre6 enc Try.prog Try.f6 Rows.fnExactFlagsRow.domain false) (Rows.fnExactFlagsSpec.post enc Try.prog Try.f6 false true false false) := by
  refine returnsInHanded_of_change (C := Try.checked) own started (by kernel_rfl) Try.func6
    (ChangeSpec.witness6 (enc := enc) (C := Try.checked) false ⟨#[], #[.agg #[.slice none 0 0, .slice none 0 0, .bool false, .bool false, .bool false, .bool false, .slice none 0 0, .slice none 0 0, .int .i64 0]], []⟩ 8 (by kernel_rfl) (by kernel_rfl) (by kernel_rfl) (by kernel_rfl)) ?_
  intro W base args ds gs before hval0 hW hcnd _
  have hval : ∀ (j : Nat) t v, Try.f6.params[j]? = some t → args[j]? = some v → Value.okWide Try.prog W .any base t v := hval0
  have hW' := hW
  obtain ⟨p, q, hA0, hV, rfl, hfz, hnd⟩ := hW
  have hA : DataW.TrodAll enc Try.prog W 0 (fun _ => true) true Try.f6.params.toList args.toList ds p := hA0
  rw [Try.params6] at hA hval
  obtain ⟨v0, vs0, d0, ds0, p0, q0, hargs, rfl, rfl, h0, r0⟩ := trodAll_cons hA
  obtain ⟨rfl, rfl, rfl⟩ := trodAll_nil r0
  obtain rfl : args = #[v0] := by cases args; simp_all
  obtain ⟨rfl, rfl⟩ := trodVars_none hV
  have k0 := h0
  have lt0 : ∀ x ∈ p0, x.block < W.heap.size := by obtain ⟨m, hm⟩ := k0; exact DataW.trod_lt m _ _ _ hm
  obtain ⟨x0, e0, rfl, g0, y0⟩ := open_mv (hval 0 52 v0 rfl rfl) h0
  clear hA0 hval0
  refine (walk x0 e0 y0 W g0).mono fun e W' ⟨he, bel⟩ => ?_
  subst he
  exact ⟨_, rfl, _, _, _, [], _, [], hW', trodAll_mk1 (shut_bool Try.underlying4 _), (trodAll_cons_mk (Below.trod laidOut (by kernel_rfl) (of_decide_eq_true (by kernel_rfl)) k0 bel lt0) trodAll_mk0), rfl, bel.frame _, fun h => by cases h⟩

theorem over : Rows.fnExactFlagsRow.holds Try.pinned (OpenSpec.ofChange Rows.fnExactFlagsSpec) :=
  OpenClaim.holds_of_wide 6 Try.f6 rfl rfl rfl rfl rfl rfl rfl ⟨rfl, rfl, rfl, rfl, rfl⟩ rfl rfl rfl rfl rfl (by kernel_rfl) Try.func6 (by kernel_rfl)
    (of_decide_eq_true (by kernel_rfl)) (by unfold Func.isWrapper; first | (rw [if_pos (by decide +kernel)]; kernel_rfl) | (rw [if_neg (by decide +kernel)]; exact ⟨rfl, rfl⟩))
    (fun os started H enc _ => lifted os started H enc)

theorem proved : Rows.FnExactFlagsSaid := over
end Go.Proofs.Ytjpbjbnialehbaa.fnExactFlags

namespace Go.Proofs.Ytjpbjbnialehbaa
theorem fnExactFlags_holds : Rows.FnExactFlagsSaid := fnExactFlags.proved
#print axioms fnExactFlags_holds
end Go.Proofs.Ytjpbjbnialehbaa
