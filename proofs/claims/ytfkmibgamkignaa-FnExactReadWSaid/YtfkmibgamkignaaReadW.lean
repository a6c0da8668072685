/- For every machine and every number as an address the law on ReadW answers true: the program reads just what the model reads, and says just as it does whether a word is there; what came in reads as it did. No condition. -/
import Derived.Test.YtfkmibgamkignaaRows
import Derived.Test.YtfkmibgamkignaaLawA
import Derived.Test.YtfkmibgamkignaaOpenM
import Derived.Test.YtfkmibgamkignaaMacJ
import Derived.WalkKit
import Derived.ProofKit
import Derived.OpenShut
import Derived.ShutString
import Derived.ChangeOld
import Derived.Below
namespace Go.Proofs.Ytfkmibgamkignaa.fnExactReadW
open Go.ChangeShapes Go.WideShapes Go.ChangeAt Go.RowKit
open Go.ChangeMaps (open_string shut_string)
set_option linter.unusedVariables false
set_option maxRecDepth 8000

theorem own : ownKnob Try.prog.godebug = none := by kernel_rfl
theorem laidOut : laidOutB Try.prog = true := by kernel_rfl

set_option maxHeartbeats 4000000 in
theorem walk (x : Mv) (d : Md) (hl : x.lens) (a : Int) (ha : (Lit.int .i64 a).wf = true) (W : World) (hr : RdM W x d) : Calls Try.prog 7 #[.agg x.cs, .int .i64 a] W fun e W' => e = .returned (.bool true) ∧ Below W.heap.size W W' := by
  clear ha
  have L0 := hide (lw_new hr)
  have Z := hide (szM_any x (W.alloc (.cells x.cs 58)) hl)
  clear hr hl
  go_enter Try.func7, Try.ntmps7
  go_wp2_with (refine wpList_load_row rfl 58 _ rfl W.heap.size rfl 58 x.cs (0, 0) _ (unhide L0).bx Try.underlying58 rfl (by kernel_rfl) ?_)
  refine (unhide Z).mono ?_
  rintro e w1 ⟨l, rfl, hs, hb⟩
  have L1 := hide ((unhide L0).later hb)
  clear L0 hb Z
  by_cases hlt : l < 0
  · clear hs
    go_wp2
    go_ret
    exact ⟨rfl, (unhide L1).bel⟩
  have HS := hide (hs (by omega))
  clear hs
  have T1 := hide (toM_any x d w1 (unhide HS) (unhide L1).rd)
  go_wp2_with (refine wpList_load_row rfl 58 _ rfl W.heap.size rfl 58 x.cs (0, 0) _ (unhide L1).bx Try.underlying58 rfl (by kernel_rfl) ?_)
  refine (unhide T1).mono ?_
  rintro e w2 ⟨y, rfl, fy, oy, hb⟩
  have L2 := hide ((unhide L1).later hb)
  have K1 := hide (readS_any y d a w2 (small_of (unhide L2).rd oy.rd (unhide HS)) oy.rd)
  clear L1 T1 hb fy oy
  go_wp2_with fail
  refine (unhide K1).mono ?_
  rintro e w3 ⟨rfl, hb⟩
  have L3 := hide ((unhide L2).later hb)
  clear K1 hb L2
  have T1 := hide (toM_any x d w3 (unhide HS) (unhide L3).rd)
  go_wp2_with (refine wpList_load_row rfl 58 _ rfl W.heap.size rfl 58 x.cs (0, 0) _ (unhide L3).bx Try.underlying58 rfl (by kernel_rfl) ?_)
  refine (unhide T1).mono ?_
  rintro e w4 ⟨z, rfl, fz, oz, hb⟩
  have L4 := hide (((unhide L3).later hb).later (below_new w4 (.cells z.cs 28)))
  have OZ := hide (oz.later (below_new w4 (.cells z.cs 28)))
  have RZ := hide (heap_alloc_last w4 (.cells z.cs 28))
  have FZ := hide fz
  have K2 := hide (readI_any z d a (w4.alloc (.cells z.cs 28)) (small_of (unhide L4).rd (unhide OZ).rd (unhide HS)) (unhide OZ).nz (unhide OZ).rd)
  clear L3 T1 hb oz fz
  generalize d.get a = q1 at K2 ⊢
  generalize d.has a = q2 at K2 ⊢
  go_wp2_with (first | (refine wpList_store_new rfl 28 _ _ rfl z.cs rfl rfl _ (by kernel_rfl) rfl (Mv.cs_one _) ?_) | (refine wpList_load_row rfl 28 _ rfl w4.heap.size rfl 28 z.cs (0, 0) _ (unhide RZ) Try.underlying28 rfl (by kernel_rfl) ?_))
  refine (unhide K2).mono ?_
  rintro e w5 ⟨rfl, hb⟩
  have L5 := hide ((unhide L4).later hb)
  have O5 := hide ((unhide OZ).later hb)
  have R5 := hide (row_lat (unhide RZ) hb)
  clear L4 OZ RZ K2 hb
  have T1 := hide (toM_any x d w5.drew (unhide HS) ((unhide L5).later below_drew).rd)
  go_wp2_with fail
  refine wp_region_held_drew (S := fun w' => w'.heap[w4.heap.size]? = some (.cells z.cs 28 (0, 0)) ∧ w'.heap[W.heap.size]? = some (.cells x.cs 58 (0, 0))) (by kernel_rfl) ⟨unhide R5, (unhide L5).bx⟩ (fun hS => ?_)
  have HSS := hide hS
  clear hS
  refine wpAnyH_take (i := 0) (v := .agg z.cs) rfl (by kernel_rfl) (by kernel_rfl) (by kernel_rfl) (fun _ _ _ h => h) (yields_load rfl 28 _ rfl w4.heap.size rfl 28 z.cs _ (fun w h => h.1) Try.underlying28 rfl (by kernel_rfl)) (unhide HSS) ?_
  go_simp
  refine wpAnyH_take (i := 1) (v := .agg x.cs) rfl (by kernel_rfl) (by kernel_rfl) (by kernel_rfl) (fun _ _ _ h => h) (yields_load rfl 58 _ rfl W.heap.size rfl 58 x.cs _ (fun w h => h.2) Try.underlying58 rfl (by kernel_rfl)) (unhide HSS) ?_
  go_simp
  refine wpAnyH_ready (rs := [2]) (by kernel_rfl) (by simp) ?_
  refine AllReadyH.cons rfl (fun K hK => ?_) AllReadyH.nil
  go_simp
  refine (unhide T1).mono ?_
  rintro e w6 ⟨u, rfl, fu, ou, hb⟩
  have L6 := hide (((unhide L5).later below_drew).later hb)
  have O6 := hide (((unhide O5).later below_drew).later hb)
  have E6 := hide (eqM_any z u d w6 (fu.trans (unhide FZ).symm) (small_of (unhide L6).rd (unhide O6).rd (unhide HS)) (unhide O6).rd ou.rd)
  refine hK.out _ _ ⟨row_lat (unhide HSS).1 hb, row_lat (unhide HSS).2 hb⟩ (fun hS => ?_)
  have HSN := hide hS
  clear hS hb ou fu hK K T1 L5 O5 R5 HSS
  refine wpAnyH_ready (rs := [3]) (by kernel_rfl) (by simp) ?_
  refine AllReadyH.cons rfl (fun K hK => ?_) AllReadyH.nil
  go_simp
  refine (unhide E6).mono ?_
  rintro e w7 ⟨rfl, hb⟩
  have L7 := hide ((unhide L6).later hb)
  refine hK.out _ _ ⟨row_lat (unhide HSN).1 hb, row_lat (unhide HSN).2 hb⟩ (fun hS => ?_)
  have HSS := hide hS
  clear hS hb hK K L6 O6 E6 HSN
  refine wpAnyH_take (i := 4) (v := .bool false) rfl (by kernel_rfl) (by kernel_rfl) (by kernel_rfl) (fun _ _ _ h => h) (Or.inl ⟨by rfl, fun w _ => ?_⟩) (unhide HSS) ?_
  · go_simp
  go_simp
  refine wpAnyH_done (by kernel_rfl) ?_ _
  go_wp2
  go_ret
  exact ⟨rfl, (unhide L7).bel⟩

set_option maxRecDepth 100000 in
theorem lifted (os : Os) (started : os.Started) (H : Type) (enc : TypeId × Value → H) :
    ReturnsInHanded {} Try.checked os 7 .any (Rows.fnExactReadWSpec.pre6 enc Try.prog Try.f7 Rows.fnExactReadWRow.domain false) (Rows.fnExactReadWSpec.post enc Try.prog Try.f7 false true false false) := by
  refine returnsInHanded_of_change (C := Try.checked) own started (by kernel_rfl) Try.func7
    (ChangeSpec.witness6 (enc := enc) (C := Try.checked) false ⟨#[], #[.agg #[.slice none 0 0, .slice none 0 0, .bool false, .bool false, .bool false, .bool false, .slice none 0 0, .slice none 0 0, .int .i64 0], .int .i64 0], []⟩ 8 (by kernel_rfl) (by kernel_rfl) (by kernel_rfl) (by kernel_rfl)) ?_
  intro W base args ds gs before hval0 hW hcnd _
  have hval : ∀ (j : Nat) t v, Try.f7.params[j]? = some t → args[j]? = some v → Value.okWide Try.prog W .any base t v := hval0
  have hW' := hW
  obtain ⟨p, q, hA0, hV, rfl, hfz, hnd⟩ := hW
  have hA : DataW.TrodAll enc Try.prog W 0 (fun _ => true) true Try.f7.params.toList args.toList ds p := hA0
  rw [Try.params7] at hA hval
  obtain ⟨v0, vs0, d0, ds0, p0, q0, hargs, rfl, rfl, h0, r0⟩ := trodAll_cons hA
  obtain ⟨v1, vs1, d1, ds1, p1, q1, rfl, rfl, rfl, h1, r1⟩ := trodAll_cons r0
  obtain ⟨rfl, rfl, rfl⟩ := trodAll_nil r1
  obtain rfl : args = #[v0, v1] := by cases args; simp_all
  obtain ⟨rfl, rfl⟩ := trodVars_none hV
  have k0 := h0
  have lt0 : ∀ x ∈ p0, x.block < W.heap.size := by obtain ⟨m, hm⟩ := k0; exact DataW.trod_lt m _ _ _ hm
  obtain ⟨x0, e0, rfl, g0, y0⟩ := open_mv (hval 0 58 v0 rfl rfl) h0
  have k1 := h1
  have lt1 : ∀ x ∈ p1, x.block < W.heap.size := by obtain ⟨m, hm⟩ := k1; exact DataW.trod_lt m _ _ _ hm
  obtain ⟨a1, rfl, _, _, w1⟩ := open_int Try.underlying3 (hval 1 3 v1 rfl rfl) h1
  clear hA0 hval0
  refine (walk x0 e0 y0 a1 w1 W g0).mono fun e W' ⟨he, bel⟩ => ?_
  subst he
  exact ⟨_, rfl, _, _, _, [], _, [], hW', trodAll_mk1 (shut_bool Try.underlying4 _), (trodAll_cons_mk (Below.trod laidOut (by kernel_rfl) (of_decide_eq_true (by kernel_rfl)) k0 bel lt0) (trodAll_cons_mk (Below.trod laidOut (by kernel_rfl) (of_decide_eq_true (by kernel_rfl)) k1 bel lt1) trodAll_mk0)), rfl, bel.frame _, fun h => by cases h⟩

theorem over : Rows.fnExactReadWRow.holds Try.pinned (OpenSpec.ofChange Rows.fnExactReadWSpec) :=
  OpenClaim.holds_of_wide 7 Try.f7 rfl rfl rfl rfl rfl rfl rfl ⟨rfl, rfl, rfl, rfl, rfl⟩ rfl rfl rfl rfl rfl (by kernel_rfl) Try.func7 (by kernel_rfl)
    (of_decide_eq_true (by kernel_rfl)) (by unfold Func.isWrapper; first | (rw [if_pos (by decide +kernel)]; kernel_rfl) | (rw [if_neg (by decide +kernel)]; exact ⟨rfl, rfl⟩))
    (fun os started H enc _ => lifted os started H enc)

theorem proved : Rows.FnExactReadWSaid := over
end Go.Proofs.Ytfkmibgamkignaa.fnExactReadW

namespace Go.Proofs.Ytfkmibgamkignaa
theorem fnExactReadW_holds : Rows.FnExactReadWSaid := fnExactReadW.proved
#print axioms fnExactReadW_holds
end Go.Proofs.Ytfkmibgamkignaa
