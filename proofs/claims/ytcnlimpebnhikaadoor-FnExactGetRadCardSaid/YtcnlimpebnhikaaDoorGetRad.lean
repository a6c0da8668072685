/- For every slice of ints the program's GetRad answers as the model's GetRad and writes into no argument: the law FnExactGetRad returns true at every argument; the tables that the card lists are as the program's text lays them. -/
import Derived.Test.YtcnlimpebnhikaaDoorGetH
import Derived.Test.YtcnlimpebnhikaaDoorTie
import Derived.Test.YtcnlimpebnhikaaDoorCards
import Derived.SevenTiedAt
import Derived.Lay
import Derived.MakeChecks
namespace Go.Proofs.YtcnlimpebnhikaaDoor.fnExactGetRad
open Go.ChangeShapes Go.WideShapes Go.ChangeAt Go.RowKit
open Go.ChangeMaps (open_string shut_string)
set_option linter.unusedVariables false

set_option maxHeartbeats 1000000 in
theorem walk (a0 : Option Addr) (len0 cap0 : Nat) (z0 : List Int) (w : World) (w0 : IsRow .i64 w a0 len0 cap0 z0) :
    Calls Tryd.prog 4 #[.slice a0 len0 cap0] w fun e w' => e = .returned (.bool true) ∧ Below w.heap.size w w' := by
  obtain ⟨ns, hl, hlc, hm, hr, hbd⟩ := rdN_of_row w0
  unfold maxLen at hm
  by_cases hbig : 1048576 < len0
  · go_enter Tryd.func4, Tryd.ntmps4
    go_wp2
    go_ret
    exact ⟨rfl, Below.refl _ _⟩
  · have HBD := hide hbd
    clear hbd w0
    go_enter Tryd.func4, Tryd.ntmps4
    go_wp2_with fail
    refine (toIntS_any a0 len0 cap0 ns w hl (by omega) hr).mono ?_
    rintro e w1 ⟨v1, rfl, own1, hb1⟩
    have Q1 := hide (getRadS v1 ns _ w1 (by omega) own1)
    have s1 := hb1.size
    have B1 := hide hb1
    clear own1 hb1
    go_wp2_with fail
    refine (unhide Q1).mono ?_
    rintro e w2 ⟨rfl, hb2⟩
    have s2 := hb2.size
    have B2 := hide ((unhide B1).trans (hb2.mono s1))
    clear hb2 Q1 B1
    go_wp2_with fail
    refine (toIntS_any a0 len0 cap0 ns w2 hl (by omega) (hr.later (unhide B2))).mono ?_
    rintro e w3 ⟨v3, rfl, own3, hb3⟩
    have s3 := hb3.size
    have Q3 := hide (getRadI v3 ns _ w3 (by omega) (unhide HBD) own3)
    have B3 := hide ((unhide B2).trans (hb3.mono (by omega)))
    have O3 := hide own3
    clear own3 hb3 B2
    go_wp2_with fail
    refine (unhide Q3).mono ?_
    rintro e w4 ⟨rfl, hb4⟩
    have s4 := hb4.size
    have B4 := hide ((unhide B3).trans (hb4.mono (by omega)))
    have O4 := hide ((unhide O3).later hb4)
    clear hb4 Q3 B3 O3
    go_wp2_with fail
    refine (toIntS_any a0 len0 cap0 ns w4 hl (by omega) (hr.later (unhide B4))).mono ?_
    rintro e w5 ⟨v5, rfl, own5, hb5⟩
    have s5 := hb5.size
    have Q5 := hide (eqIntS_own v3 v5 ns _ _ w5 (by omega) ((unhide O4).later hb5) own5)
    have B5 := hide ((unhide B4).trans (hb5.mono (by omega)))
    clear own5 hb5 B4 O4
    go_wp2_with fail
    refine (unhide Q5).mono ?_
    rintro e w6 ⟨rfl, hb6⟩
    go_wp2
    go_ret
    exact ⟨rfl, (unhide B5).trans (hb6.mono (by omega))⟩

set_option maxRecDepth 100000 in
theorem lifted (os : Os) (started : os.Started) (H : Type) (enc : TypeId × Value → H) :
    ReturnsInHanded {} Tryd.checked os 4 .any (fun w args => (Rows.fnExactGetRadSpec.pre enc Tryd.prog Tryd.f4 [] false w args ∧ laidMetH Tryd.prog Rows.fnExactGetRadRow.laid w) ∧ sizedMet enc Tryd.prog Tryd.f4 (OpenSpec.ofChange Rows.fnExactGetRadSpec) false w args)
      (Rows.fnExactGetRadSpec.post enc Tryd.prog Tryd.f4 false true false false) := by
  refine returnsInHanded_of_change_and (C := Tryd.checked) (X := fun w _ => laidMetH Tryd.prog Rows.fnExactGetRadRow.laid w) (fun _ _ _ hh h => h.of_heap hh) own started (by kernel_rfl) Tryd.func4
    (ChangeSpec.witness_shaped (enc := enc) (C := Tryd.checked) (os := os) (X := fun w _ => laidMetH Tryd.prog Rows.fnExactGetRadRow.laid w) false (World.laidAll Tryd.prog os Rows.fnExactGetRadRow.laid) #[.slice none 0 0] 8 (World.laidAll_os _ _ _)
      (World.shaped_of_ZipB (by kernel_rfl) (by kernel_rfl)) (by kernel_rfl) (by kernel_rfl) (by kernel_rfl)
      (by rw [MakeChecks.laidMetH_plain _ _ _ (by kernel_rfl)]; exact laidMet_laidAll _ (by kernel_rfl) (by kernel_rfl))) ?_
  intro W base args ds gs before hval0 hW _ _ hL _
  have hval : ∀ (j : Nat) t v, Tryd.f4.params[j]? = some t → args[j]? = some v → Value.okWide Tryd.prog W .any base t v := hval0
  have hW' := hW
  obtain ⟨p, q, hA0, hV, rfl, hfz, hnd⟩ := hW
  have hA : DataW.TrodAll enc Tryd.prog W 0 (fun _ => true) true Tryd.f4.params.toList args.toList ds p := hA0
  rw [Tryd.params4] at hA hval
  obtain ⟨v0, vs0, d0, ds0, p0, q0, hargs, rfl, rfl, h0, r0⟩ := trodAll_cons hA
  obtain ⟨rfl, rfl, rfl⟩ := trodAll_nil r0
  obtain rfl : args = #[v0] := by cases args; simp_all
  obtain ⟨rfl, rfl⟩ := trodVars_none hV
  obtain ⟨a0, len0, cap0, rfl⟩ := okWide_slice Tryd.underlying25 (hval 0 25 v0 rfl rfl)
  have k0 := h0
  have lt0 : ∀ x ∈ p0, x.block < W.heap.size := by obtain ⟨m, hm⟩ := k0; exact DataW.trod_lt m _ _ _ hm
  obtain ⟨z0, w0⟩ : ∃ zs, IsRow .i64 W a0 len0 cap0 zs := by
    obtain ⟨fuel, hf⟩ := h0
    rcases open_ints Tryd.underlying25 Tryd.underlying3 (by kernel_rfl) hf with ⟨hcs, _⟩ | ⟨x, l, c, zs, hcs, _, hl, hm, hz, _, hcell, hwz⟩
    · simp [Value.cells] at hcs
      obtain ⟨rfl, rfl, rfl⟩ := hcs
      exact ⟨[], .inl ⟨rfl, rfl, rfl, rfl⟩⟩
    · simp [Value.cells] at hcs
      obtain ⟨rfl, rfl, rfl⟩ := hcs
      exact ⟨zs, .inr ⟨_, rfl, hl, hm, by simpa using hz, hcell, hwz⟩⟩
  clear hA0 hval0
  refine (walk a0 len0 cap0 z0 W w0).mono fun e W' ⟨he, bel⟩ => ?_
  subst he
  exact ⟨_, rfl, _, _, _, [], _, [], hW', trodAll_mk1 (shut_bool Tryd.underlying4 _), (trodAll_cons_mk (Below.trod laidOut (by kernel_rfl) (of_decide_eq_true (by kernel_rfl)) k0 bel lt0) trodAll_mk0), rfl, bel.frame _, fun h => by cases h⟩

theorem proved : Rows.FnExactGetRadSaid :=
  OpenClaim.holds_of_wide 4 Tryd.f4 rfl rfl rfl rfl rfl rfl rfl ⟨rfl, rfl, rfl, rfl, rfl⟩ rfl rfl rfl rfl rfl (by kernel_rfl) Tryd.func4 (by kernel_rfl)
    (of_decide_eq_true (by kernel_rfl)) (by unfold Func.isWrapper; first | (rw [if_pos (by decide +kernel)]; kernel_rfl) | (rw [if_neg (by decide +kernel)]; exact ⟨rfl, rfl⟩))
    (fun os started H enc _ => lifted os started H enc)
end Go.Proofs.YtcnlimpebnhikaaDoor.fnExactGetRad

namespace Go.Proofs.YtcnlimpebnhikaaDoor
theorem fnExactGetRad_holds : Rows.FnExactGetRadCardSaid :=
  Claim7.holds_tied_plain_at .later [] [.data, .pinned] true (true, "682a5e5cee0859f6dce181ae87ce3a557b2fd7ef918328178c24949b6e21e2b4") false
    fnExactGetRad.proved (fun _ h => by cases h) (by kernel_rfl) (fun _ h => by cases h) fnExactGetRad_row_tie rfl ⟨rfl, rfl⟩ (by kernel_rfl) rfl
    (fun f fn hf hfn => by
      obtain rfl : f = 4 := Option.some.inj ((show Tryd.prog.funcNamed "loop.example/g00329/laws.FnExactGetRad" = some 4 by kernel_rfl).symm.trans hf) |>.symm
      obtain rfl : fn = Tryd.f4 := (Option.some.inj (Tryd.func4.symm.trans hfn)).symm
      exact ⟨by kernel_rfl, fun j t ht => by
        rw [Tryd.params4] at ht
        have hm : t ∈ [25] := by simpa using Array.mem_of_getElem? ht
        have hall : ([25].all fun u => !Tryd.prog.wantsStandIn u) = true := by kernel_rfl
        exact (show Tryd.prog.wantsStandIn t = false by simpa using List.all_eq_true.1 hall t hm)⟩)
    (by kernel_rfl)
#print axioms fnExactGetRad_holds
end Go.Proofs.YtcnlimpebnhikaaDoor
