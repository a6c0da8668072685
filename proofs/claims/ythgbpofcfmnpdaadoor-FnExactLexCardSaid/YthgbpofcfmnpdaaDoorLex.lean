/- For every text the program's Lex answers as the model's, its answer owns its memory, behind another call too: the law FnExactLex returns true at every argument (where the text is longer than 1048576 it answers true with no call of the program); the tables and sentinels that the card lists are as the text of the program and of the library lays them. -/
import Derived.Test.YthgbpofcfmnpdaaDoorRows
import Derived.Test.YthgbpofcfmnpdaaDoorLxG
import Derived.Test.YthgbpofcfmnpdaaDoorTie
import Derived.Test.YthgbpofcfmnpdaaDoorCards
import Derived.SevenTiedAt
import Derived.Lay
import Derived.MakeChecks
import Derived.OpenVars
import Derived.WalkKit
import Derived.ProofKit
import Derived.OpenShut
import Derived.ShutString
import Derived.ChangeOld
import Derived.Below
import Derived.LaidMore
namespace Go.Proofs.YthgbpofcfmnpdaaDoor.fnExactLex
open Go.ChangeShapes Go.WideShapes Go.ChangeAt Go.RowKit
open Go.ChangeMaps (open_string shut_string)
set_option linter.unusedVariables false
set_option maxRecDepth 8000

set_option maxHeartbeats 2000000 in
theorem walk (s : ByteArray) (hs : s.size ≤ maxLen) (w : World) (he : Env w) : Calls Tryd.prog 5 #[.string s] w fun e w' => e = .returned (.bool true) ∧ Below w.heap.size w w' := by
  clear hs
  by_cases hbig : 1048576 < s.size
  · go_enter Tryd.func5, Tryd.ntmps5
    go_wp2
    go_ret
    exact ⟨rfl, Below.refl _ _⟩
  · have hz : s.size ≤ 1048576 := by omega
    have EV := hide (fun wr (h : Below w.heap.size w wr) => he.later h)
    have LS := hide (lexS_any s w hz)
    have LI := hide (fun wr (h : Env wr) => lexI_any s wr hz h)
    have L8 := hide (lex_len s)
    generalize lexR s 0 [] = R at *
    obtain ⟨ts, b⟩ := R
    simp only at LS LI L8
    clear he
    cases b
    all_goals
      go_enter Tryd.func5, Tryd.ntmps5
      go_wp2_with fail
      refine (unhide LS).mono ?_
      rintro e w1 ⟨v0, rfl, o1, hb1⟩
      have O1 := hide o1
      have B1 := hide hb1
      have V0 := hide (show ∀ g, v0.ownBlock = some g → g < w1.heap.size from fun g hg => (o1.lt hg).2)
      clear o1 hb1 LS
      go_wp2_with fail
      refine (unhide LI w1 (unhide EV w1 (unhide B1))).mono ?_
      rintro e w2 ⟨v1, rfl, o2, hb2⟩
      have O2 := hide ((unhide O1).later hb2)
      have G2 := hide o2
      have B2 := hide ((unhide B1).trans (hb2.mono (unhide B1).size))
      have E2 := hide (eqT_own v1 v0 ts _ _ w2 (unhide L8) o2 (unhide O2))
      have S1 := hide (unhide B1).size
      clear o2 hb2 O1 B1
      go_wp2_with fail
      refine (unhide E2).mono ?_
      rintro e w3 ⟨rfl, hb3⟩
      have O3 := hide ((unhide O2).later hb3)
      have G3 := hide ((unhide G2).later hb3)
      have B3 := hide ((unhide B2).trans (hb3.mono (unhide B2).size))
      have M3 := hide (markTokS_own v1 ts _ w3 (unhide L8) (unhide G3))
      clear hb3 O2 G2 B2 E2
      go_wp2_with fail
      refine (unhide M3).mono ?_
      rintro e w4 ⟨rfl, o4, hg4⟩
      have O4 := hide ((unhide O3).apart (unhide G3) hg4 (unhide V0))
      have G4 := hide o4
      have B4 := hide ((unhide B3).grown hg4 (unhide B3).size (fun g hg => Nat.le_trans (unhide S1) ((unhide G3).lt hg).1))
      have Q4 := hide (heldT_own v1 ts.length _ w4 (unhide L8) o4)
      have hn : (0 : Int) ≤ ((1 + 3 * ts.length : Nat) : Int) := by omega
      have HQ := hide (fun w (h : OwnT w w1.heap.size v1 (marksT ts.length)) => heldT_own v1 ts.length _ w (unhide L8) h)
      generalize ((1 + 3 * ts.length : Nat) : Int) = mm at *
      clear o4 hg4 O3 G3 B3 M3
      go_wp2_with fail
      refine (unhide Q4).mono ?_
      rintro e w5 ⟨rfl, hb5⟩
      have O5 := hide ((unhide O4).later hb5)
      have G5 := hide ((unhide G4).later hb5)
      have B5 := hide ((unhide B4).trans (hb5.mono (unhide B4).size))
      clear hb5 O4 G4 B4 Q4
      go_wp2_with fail
      refine (unhide LI w5 (unhide EV w5 (unhide B5))).mono ?_
      rintro e w6 ⟨v6, rfl, o6, hb6⟩
      have O6 := hide ((unhide O5).later hb6)
      have G6 := hide ((unhide G5).later hb6)
      have B6 := hide ((unhide B5).trans (hb6.mono (unhide B5).size))
      have E6 := hide (eqT_own v6 v0 ts _ _ w6 (unhide L8) o6 (unhide O6))
      clear o6 hb6 O5 G5 B5
      go_wp2_with fail
      refine (unhide E6).mono ?_
      rintro e w7 ⟨rfl, hb7⟩
      have B7 := hide ((unhide B6).trans (hb7.mono (unhide B6).size))
      have Q7 := hide (unhide HQ w7 ((unhide G6).later hb7))
      clear hb7 O6 G6 B6 E6
      go_wp2_with fail
      refine (unhide Q7).mono ?_
      rintro e w8 ⟨rfl, hb8⟩
      have B8 := hide ((unhide B7).trans (hb8.mono (unhide B7).size))
      clear hb8 Q7 B7
      go_wp2
      go_ret
      exact ⟨rfl, unhide B8⟩

theorem door_met (os : Os) (args : Array Value) : laidMetH Tryd.prog Rows.fnExactLexRow.laid ((World.doorLaid Tryd.prog 400 os).forCall (fun _ _ => 0) ⟨#[], args, []⟩).memory :=
  laidMetH_of_parts3 (fuel := 8) (laidMet_of_run' 8 (by kernel_rfl) (by kernel_rfl)) (by kernel_rfl) (by kernel_rfl)
set_option maxRecDepth 100000 in
theorem lifted (os : Os) (started : os.Started) (H : Type) (enc : TypeId × Value → H) :
    ReturnsInHanded {} Tryd.checked os 5 .any (fun w args => (Rows.fnExactLexSpec.pre enc Tryd.prog Tryd.f5 [] false w args ∧ laidMetH Tryd.prog Rows.fnExactLexRow.laid w) ∧ sizedMet enc Tryd.prog Tryd.f5 (OpenSpec.ofChange Rows.fnExactLexSpec) false w args)
      (Rows.fnExactLexSpec.post enc Tryd.prog Tryd.f5 false true false false) := by
  refine returnsInHanded_of_change_and (C := Tryd.checked) (X := fun w _ => laidMetH Tryd.prog Rows.fnExactLexRow.laid w) (fun _ _ _ hh h => h.of_heap hh) own started (by kernel_rfl) Tryd.func5
    (ChangeSpec.witness_shaped (enc := enc) (C := Tryd.checked) (os := os) (X := fun w _ => laidMetH Tryd.prog Rows.fnExactLexRow.laid w) false (World.doorLaid Tryd.prog 400 os) #[.string ⟨#[]⟩] 8 rfl (World.shaped_of_RefB (by kernel_rfl) (by kernel_rfl)) (by kernel_rfl) (by kernel_rfl) (by kernel_rfl) (door_met os _)) ?_
  intro W base args ds gs before hval0 hW _ _ hL _
  have hval : ∀ (j : Nat) t v, Tryd.f5.params[j]? = some t → args[j]? = some v → Value.okWide Tryd.prog W .any base t v := hval0
  have hW' := hW
  obtain ⟨p, q, hA0, hV, rfl, hfz, hnd⟩ := hW
  have hA : DataW.TrodAll enc Tryd.prog W 0 (fun _ => true) true Tryd.f5.params.toList args.toList ds p := hA0
  rw [Tryd.params5] at hA hval
  obtain ⟨v0, vs0, d0, ds0, p0, q0, hargs, rfl, rfl, h0, r0⟩ := trodAll_cons hA
  obtain ⟨rfl, rfl, rfl⟩ := trodAll_nil r0
  obtain rfl : args = #[v0] := by cases args; simp_all
  have kV := hV
  obtain ⟨gv, tv, cv, fv, dv, pv, gu, tu, cu, fu, du, pu, rfl, _⟩ := trodVars_two hV
  have k0 := h0
  have lt0 : ∀ x ∈ p0, x.block < W.heap.size := by obtain ⟨m, hm⟩ := k0; exact DataW.trod_lt m _ _ _ hm
  obtain ⟨s0, rfl, _, _, w0⟩ := open_string Tryd.underlying9 (hval 0 9 v0 rfl rfl) h0
  clear hA0 hval0
  refine (walk s0 w0 W  (env_of hL)).mono fun e W' ⟨he, bel⟩ => ?_
  subst he
  exact ⟨_, rfl, _, _, _, [], _, _, hW', trodAll_mk1 (shut_bool Tryd.underlying4 _), (trodAll_cons_mk (Below.trod laidOut (by kernel_rfl) (of_decide_eq_true (by kernel_rfl)) k0 bel lt0) trodAll_mk0), bel.trodVars laidOut (by kernel_rfl) kV, bel.frame _, fun h => by cases h⟩

theorem proved : Rows.FnExactLexSaid :=
  OpenClaim.holds_of_wide 5 Tryd.f5 rfl rfl rfl rfl rfl rfl rfl ⟨rfl, rfl, rfl, rfl, rfl⟩ rfl rfl rfl rfl rfl (by kernel_rfl) Tryd.func5 (by kernel_rfl)
    (of_decide_eq_true (by kernel_rfl)) (by unfold Func.isWrapper; first | (rw [if_pos (by decide +kernel)]; kernel_rfl) | (rw [if_neg (by decide +kernel)]; exact ⟨rfl, rfl⟩))
    (fun os started H enc _ => lifted os started H enc)
end Go.Proofs.YthgbpofcfmnpdaaDoor.fnExactLex

namespace Go.Proofs.YthgbpofcfmnpdaaDoor
theorem fnExactLex_holds : Rows.FnExactLexCardSaid :=
  Claim7.holds_tied_plain_at .later [] [.data, .data, .data, .sentinel, .sentinel, .data, .data] true (true, "024b85a724a0c90bbfcec3145dcc3ce4cc6fd38289db879db2e1c102559e5034") true
    fnExactLex.proved (fun _ h => by cases h) (by kernel_rfl) (fun _ h => by cases h) fnExactLex_row_tie rfl ⟨rfl, rfl⟩ (by kernel_rfl) rfl
    (fun f fn hf hfn => by
      obtain rfl : f = 5 := Option.some.inj ((show Tryd.prog.funcNamed "loop.example/g00329/laws.FnExactLex" = some 5 by kernel_rfl).symm.trans hf) |>.symm
      obtain rfl : fn = Tryd.f5 := (Option.some.inj (Tryd.func5.symm.trans hfn)).symm
      exact ⟨by kernel_rfl, fun j t ht => by
        rw [Tryd.params5] at ht
        have hm : t ∈ [9] := by simpa using Array.mem_of_getElem? ht
        have hall : ([9].all fun u => !Tryd.prog.wantsStandIn u) = true := by kernel_rfl
        exact (show Tryd.prog.wantsStandIn t = false by simpa using List.all_eq_true.1 hall t hm)⟩)
    (by kernel_rfl)
#print axioms fnExactLex_holds
end Go.Proofs.YthgbpofcfmnpdaaDoor
