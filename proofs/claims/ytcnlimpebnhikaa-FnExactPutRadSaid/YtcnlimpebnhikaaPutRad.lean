/- For every string the program's PutRad answers as the model's PutRad, and its answer owns its memory, behind another call too: the law FnExactPutRad returns true at every argument; no condition. -/
import Derived.Test.YtcnlimpebnhikaaRows
import Derived.Test.YtcnlimpebnhikaaRadK
import Derived.ChangeOld
import Derived.Below
import Derived.WalkKit
import Derived.ProofKit
import Derived.OpenShut
import Derived.ShutString
namespace Go.Proofs.Ytcnlimpebnhikaa.fnExactPutRad
open Go.ChangeShapes Go.WideShapes Go.ChangeAt Go.RowKit
open Go.ChangeMaps (open_string shut_string)
set_option linter.unusedVariables false

theorem own : ownKnob Try.prog.godebug = none := by kernel_rfl

theorem walk (a0 : ByteArray) (w0 : a0.size ≤ maxLen) (w : World) :
    Calls Try.prog 3 #[.string a0] w fun e w' => e = .returned (.bool true) ∧ Below w.heap.size w w' := by
  unfold maxLen at w0
  by_cases hbig : 1048576 < a0.size
  · go_enter Try.func3, Try.ntmps3
    go_wp2
    go_ret
    exact ⟨rfl, Below.refl _ _⟩
  · have hlen := rNs_len a0.data.toList
    go_enter Try.func3, Try.ntmps3
    go_wp2_with fail
    refine (putRadS a0 w (by omega)).mono ?_
    rintro e w1 ⟨v0, rfl, own1, hb1⟩
    go_wp2_with fail
    refine (putRadI a0 w1 (by omega)).mono ?_
    rintro e w2 ⟨v1, rfl, own2, hb2⟩
    have E2 := hide (eqIntS_own v1 v0 _ _ _ w2 (by omega) own2 (own1.later hb2))
    have G2 := hide own2
    have G1 := hide (own1.later hb2)
    have L1 := hide (show ∀ g, v0.ownBlock = some g → g < w1.heap.size from fun g hg => (own1.lt hg).2)
    have B2 := hide (hb1.trans (hb2.mono hb1.size))
    have s1 := hb1.size
    have s2 := hb2.size
    clear own1 own2 hb1 hb2
    generalize hns : rNs a0.data.toList = ns at *
    go_wp2_with fail
    refine (unhide E2).mono ?_
    rintro e w3 ⟨rfl, hb3⟩
    have M3 := hide (markS_own v1 ns _ w3 (by omega) ((unhide G2).later hb3))
    have G3 := hide ((unhide G2).later hb3)
    have H3 := hide ((unhide G1).later hb3)
    have B3 := hide ((unhide B2).trans (hb3.mono (by omega)))
    have s3 := hb3.size
    clear hb3 E2 G2 G1 B2
    go_wp2_with fail
    refine (unhide M3).mono ?_
    rintro e w4 ⟨rfl, own4, hg4⟩
    have s4 := hg4.size
    have H4 := hide ((unhide H3).apart (unhide G3) hg4 (unhide L1))
    have B4 := hide ((unhide B3).grown hg4 (by omega) (fun k h => by have := ((unhide G3).lt h).1; omega))
    have Q4 := hide (heldS_own v1 ns.length _ w4 (by omega) own4)
    have G4 := hide own4
    clear own4 hg4 M3 G3 H3 B3
    have hlt1 : ¬ (1 : Int) + (ns.length : Int) < 0 := by omega
    go_wp2_with fail
    refine (unhide Q4).mono ?_
    rintro e w' ⟨rfl, hw'⟩
    rw [hw']
    clear hw' w' Q4
    go_wp2_with fail
    refine (putRadI a0 w4 (by omega)).mono ?_
    rintro e w5 ⟨v5, rfl, own5, hb5⟩
    rw [hns] at own5
    have s5 := hb5.size
    have E5 := hide (eqIntS_own v5 v0 _ _ _ w5 (by omega) own5 ((unhide H4).later hb5))
    have G5 := hide ((unhide G4).later hb5)
    have B5 := hide ((unhide B4).trans (hb5.mono (by omega)))
    clear own5 hb5 H4 G4 B4
    go_wp2_with fail
    refine (unhide E5).mono ?_
    rintro e w6 ⟨rfl, hb6⟩
    have Q6 := hide (heldS_own v1 ns.length _ w6 (by omega) ((unhide G5).later hb6))
    have B6 := hide ((unhide B5).trans (hb6.mono (by omega)))
    clear hb6 G5 B5 E5
    go_wp2_with fail
    refine (unhide Q6).mono ?_
    rintro e w' ⟨rfl, hw'⟩
    rw [hw']
    clear hw' w' Q6
    go_wp2
    go_ret
    exact ⟨rfl, unhide B6⟩

set_option maxRecDepth 100000 in
theorem lifted (os : Os) (started : os.Started) (H : Type) (enc : TypeId × Value → H) :
    ReturnsInHanded {} Try.checked os 3 .any (Rows.fnExactPutRadSpec.pre6 enc Try.prog Try.f3 Rows.fnExactPutRadRow.domain false) (Rows.fnExactPutRadSpec.post enc Try.prog Try.f3 false true false false) := by
  refine returnsInHanded_of_change (C := Try.checked) own started (by kernel_rfl) Try.func3
    (ChangeSpec.witness6 (enc := enc) (C := Try.checked) false ⟨#[], #[.string ByteArray.empty], []⟩ 8 (by kernel_rfl) (by kernel_rfl) (by kernel_rfl) (by kernel_rfl)) ?_
  intro W base args ds gs before hval0 hW hcnd _
  have hval : ∀ (j : Nat) t v, Try.f3.params[j]? = some t → args[j]? = some v → Value.okWide Try.prog W .any base t v := hval0
  have hW' := hW
  obtain ⟨p, q, hA0, hV, rfl, hfz, hnd⟩ := hW
  have hA : DataW.TrodAll enc Try.prog W 0 (fun _ => true) true Try.f3.params.toList args.toList ds p := hA0
  rw [Try.params3] at hA hval
  obtain ⟨v0, vs0, d0, ds0, p0, q0, hargs, rfl, rfl, h0, r0⟩ := trodAll_cons hA
  obtain ⟨rfl, rfl, rfl⟩ := trodAll_nil r0
  obtain rfl : args = #[v0] := by cases args; simp_all
  obtain ⟨rfl, rfl⟩ := trodVars_none hV
  obtain ⟨a0, rfl, rfl, rfl, w0⟩ := open_string Try.underlying9 (hval 0 9 v0 rfl rfl) h0
  clear hA0 hval0
  refine (walk a0 w0 W).mono fun e W' ⟨he, hg⟩ => ?_
  subst he
  exact ⟨_, rfl, _, _, _, [], _, [], hW', trodAll_mk1 (shut_bool Try.underlying4 _), (trodAll_cons_mk (shut_string Try.underlying9 w0) trodAll_mk0), rfl, hg.frame _, fun h => by cases h⟩

theorem over : Rows.fnExactPutRadRow.holds Try.pinned (OpenSpec.ofChange Rows.fnExactPutRadSpec) :=
  OpenClaim.holds_of_wide 3 Try.f3 rfl rfl rfl rfl rfl rfl rfl ⟨rfl, rfl, rfl, rfl, rfl⟩ rfl rfl rfl rfl rfl (by kernel_rfl) Try.func3 (by kernel_rfl)
    (of_decide_eq_true (by kernel_rfl)) (by unfold Func.isWrapper; first | (rw [if_pos (by decide +kernel)]; kernel_rfl) | (rw [if_neg (by decide +kernel)]; exact ⟨rfl, rfl⟩))
    (fun os started H enc _ => lifted os started H enc)

theorem proved : Rows.FnExactPutRadSaid :=
  over
end Go.Proofs.Ytcnlimpebnhikaa.fnExactPutRad

namespace Go.Proofs.Ytcnlimpebnhikaa
theorem fnExactPutRad_holds : Rows.FnExactPutRadSaid := fnExactPutRad.proved
#print axioms fnExactPutRad_holds
end Go.Proofs.Ytcnlimpebnhikaa
