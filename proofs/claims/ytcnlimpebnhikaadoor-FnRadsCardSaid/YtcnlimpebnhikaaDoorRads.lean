/- For every slice of bytes: drawn letters come back of their words, but for blanks at the end, and what is read of drawn words is as the model has it: the law FnRads returns true at every argument; the tables that the card lists are as the program's text lays them. -/
import Derived.Test.YtcnlimpebnhikaaDoorRadsD
import Derived.Test.YtcnlimpebnhikaaDoorTie
import Derived.Test.YtcnlimpebnhikaaDoorCards
import Derived.SevenTiedAt
import Derived.Lay
import Derived.MakeChecks
namespace Go.Proofs.YtcnlimpebnhikaaDoor.fnRads
open Go.ChangeShapes Go.WideShapes Go.ChangeAt Go.RowKit
open Go.ChangeMaps (open_string shut_string)
set_option linter.unusedVariables false

set_option maxHeartbeats 2000000 in
theorem walk (a0 : Option Addr) (len0 cap0 : Nat) (z0 : List Int) (w : World) (w0 : IsRow .u8 w a0 len0 cap0 z0) :
    Calls Tryd.prog 3 #[.slice a0 len0 cap0] w fun e w' => e = .returned (.bool true) ∧ Below w.heap.size w w' := by
  obtain ⟨xs, hl, hlc, hm, hr⟩ := rd_of_row w0
  unfold maxLen at hm
  clear w0
  by_cases hbig : 1048576 < len0
  · go_enter Tryd.func3, Tryd.ntmps3
    go_wp2_with fail
    refine (big_any a0 len0 cap0 w (by omega)).mono ?_
    rintro e w' ⟨he, hw'⟩
    rw [show decide ((1048576 : Int) < (len0 : Int)) = true by simp; omega] at he
    rw [hw', he]
    clear hw' he w'
    go_wp2
    go_ret
    exact ⟨rfl, Below.refl _ _⟩
  · go_enter Tryd.func3, Tryd.ntmps3
    go_wp2_with fail
    refine (big_any a0 len0 cap0 w (by omega)).mono ?_
    rintro e w' ⟨he, hw'⟩
    rw [show decide ((1048576 : Int) < (len0 : Int)) = false by simp; omega] at he
    rw [hw', he]
    clear hw' he w'
    go_wp2_with fail
    refine (drawPut_any a0 len0 cap0 xs w hl (by omega) hr).mono ?_
    rintro e w1 ⟨s, hs, rfl, hb1⟩
    have s1 := hb1.size
    have B1 := hide hb1
    clear hb1
    go_wp2_with fail
    refine (putRadI s w1 (by omega)).mono ?_
    rintro e w2 ⟨v2, rfl, own2, hb2⟩
    have s2 := hb2.size
    have B2 := hide ((unhide B1).trans (hb2.mono s1))
    have O2 := hide own2
    obtain ⟨a2, cap2, hv2, _⟩ := own2.rd
    subst hv2
    clear hb2 own2 B1
    go_wp2_with fail
    refine (putRadS s w2 (by omega)).mono ?_
    rintro e w3 ⟨v3, rfl, own3, hb3⟩
    have s3 := hb3.size
    have B3 := hide ((unhide B2).trans (hb3.mono (by omega)))
    have O2' := hide ((unhide O2).later hb3)
    have O3 := hide own3
    obtain ⟨a3, cap3, hv3, _⟩ := own3.rd
    subst hv3
    clear hb3 own3 B2 O2
    go_wp2_with fail
    refine (drawGet_any a0 len0 cap0 xs w3 hl (by omega) (hr.later (unhide B3))).mono ?_
    rintro e w4 ⟨v4, ns, rfl, hn3, hbds, own4, hb4⟩
    have s4 := hb4.size
    have B4 := hide ((unhide B3).trans (hb4.mono (by omega)))
    have P2 := hide ((unhide O2').later hb4)
    have P3 := hide ((unhide O3).later hb4)
    have Q4 := hide (getRadI v4 ns _ w4 (by omega) hbds own4)
    have O4 := hide own4
    clear hb4 B3 O2' O3 own4
    go_wp2_with fail
    refine (unhide Q4).mono ?_
    rintro e w5 ⟨rfl, hb5⟩
    have s5 := hb5.size
    have B5 := hide ((unhide B4).trans (hb5.mono (by omega)))
    have R2 := hide ((unhide P2).later hb5)
    have R3 := hide ((unhide P3).later hb5)
    have Q5 := hide (getRadS v4 ns _ w5 (by omega) ((unhide O4).later hb5))
    clear hb5 B4 P2 P3 Q4 O4
    go_wp2_with fail
    refine (unhide Q5).mono ?_
    rintro e w6 ⟨rfl, hb6⟩
    have s6 := hb6.size
    have hrl := rNs_len s.data.toList
    have B6 := hide ((unhide B5).trans (hb6.mono (by omega)))
    have T2 := hide ((unhide R2).later hb6)
    have QQ := hide (sameInts_any a2 a3 (rNs s.data.toList).length cap2 cap3 _ w6 rfl (by omega) ((unhide R2).later hb6).rd1 ((unhide R3).later hb6).rd1)
    clear hb6 B5 R2 R3 Q5
    generalize gOk ns = okg
    generalize gStr ns = strg
    by_cases hgood : Good s.data.toList
    · have hok := (rOk_yes hgood).1
      rw [hok]
      obtain ⟨hk, hback⟩ := back_str hgood
      have HR := hide (radN_bds s.data.toList)
      have HK := hide hk
      have HBK := hide hback
      clear hgood hok hk hback
      go_wp2_with fail
      refine (unhide QQ).mono ?_
      rintro e w7 ⟨rfl, hb7⟩
      have s7 := hb7.size
      have B7 := hide ((unhide B6).trans (hb7.mono (by omega)))
      have Q7 := hide (getRadI _ (rNs s.data.toList) _ w7 (by omega) (unhide HR) ((unhide T2).later hb7))
      clear hb7 B6 QQ T2
      go_wp2_with fail
      refine (unhide Q7).mono ?_
      rintro e w8 ⟨he, hb8⟩
      rw [unhide HK] at he
      subst he
      have hbk := unhide HBK
      have B8 := hide ((unhide B7).trans (hb8.mono (by omega)))
      clear hb8 B7 Q7 HBK HK HR
      generalize gStr (rNs s.data.toList) = X at *
      rcases hbk with rfl | ⟨hne, hlt, hex⟩
      · go_wp2
        go_ret
        exact ⟨rfl, unhide B8⟩
      · go_wp2
        go_ret
        exact ⟨rfl, unhide B8⟩
    · have hok := rOk_no hgood
      have hn0 : (rNs s.data.toList).length = 0 := by rw [hok.2]; rfl
      rw [hok.1]
      rw [hn0] at QQ ⊢
      clear hgood hok
      go_wp2_with fail
      refine (unhide QQ).mono ?_
      rintro e w7 ⟨rfl, hb7⟩
      have B7 := hide ((unhide B6).trans (hb7.mono (by omega)))
      clear hb7 B6 QQ
      go_wp2
      go_ret
      exact ⟨rfl, unhide B7⟩

set_option maxRecDepth 100000 in
theorem lifted (os : Os) (started : os.Started) (H : Type) (enc : TypeId × Value → H) :
    ReturnsInHanded {} Tryd.checked os 3 .any (fun w args => (Rows.fnRadsSpec.pre enc Tryd.prog Tryd.f3 [] false w args ∧ laidMetH Tryd.prog Rows.fnRadsRow.laid w) ∧ sizedMet enc Tryd.prog Tryd.f3 (OpenSpec.ofChange Rows.fnRadsSpec) false w args)
      (Rows.fnRadsSpec.post enc Tryd.prog Tryd.f3 false true false false) := by
  refine returnsInHanded_of_change_and (C := Tryd.checked) (X := fun w _ => laidMetH Tryd.prog Rows.fnRadsRow.laid w) (fun _ _ _ hh h => h.of_heap hh) own started (by kernel_rfl) Tryd.func3
    (ChangeSpec.witness_shaped (enc := enc) (C := Tryd.checked) (os := os) (X := fun w _ => laidMetH Tryd.prog Rows.fnRadsRow.laid w) false (World.laidAll Tryd.prog os Rows.fnRadsRow.laid) #[.slice none 0 0] 8 (World.laidAll_os _ _ _)
      (World.shaped_of_ZipB (by kernel_rfl) (by kernel_rfl)) (by kernel_rfl) (by kernel_rfl) (by kernel_rfl)
      (by rw [MakeChecks.laidMetH_plain _ _ _ (by kernel_rfl)]; exact laidMet_laidAll _ (by kernel_rfl) (by kernel_rfl))) ?_
  intro W base args ds gs before hval0 hW _ _ hL _
  have hval : ∀ (j : Nat) t v, Tryd.f3.params[j]? = some t → args[j]? = some v → Value.okWide Tryd.prog W .any base t v := hval0
  have hW' := hW
  obtain ⟨p, q, hA0, hV, rfl, hfz, hnd⟩ := hW
  have hA : DataW.TrodAll enc Tryd.prog W 0 (fun _ => true) true Tryd.f3.params.toList args.toList ds p := hA0
  rw [Tryd.params3] at hA hval
  obtain ⟨v0, vs0, d0, ds0, p0, q0, hargs, rfl, rfl, h0, r0⟩ := trodAll_cons hA
  obtain ⟨rfl, rfl, rfl⟩ := trodAll_nil r0
  obtain rfl : args = #[v0] := by cases args; simp_all
  obtain ⟨rfl, rfl⟩ := trodVars_none hV
  obtain ⟨a0, len0, cap0, rfl⟩ := okWide_slice Tryd.underlying22 (hval 0 22 v0 rfl rfl)
  have k0 := h0
  have lt0 : ∀ x ∈ p0, x.block < W.heap.size := by obtain ⟨m, hm⟩ := k0; exact DataW.trod_lt m _ _ _ hm
  obtain ⟨z0, w0⟩ : ∃ zs, IsRow .u8 W a0 len0 cap0 zs := by
    obtain ⟨fuel, hf⟩ := h0
    rcases open_ints Tryd.underlying22 Tryd.underlying5 (by kernel_rfl) hf with ⟨hcs, _⟩ | ⟨x, l, c, zs, hcs, _, hl, hm, hz, _, hcell, hwz⟩
    · simp [Value.cells] at hcs
      obtain ⟨rfl, rfl, rfl⟩ := hcs
      exact ⟨[], .inl ⟨rfl, rfl, rfl, rfl⟩⟩
    · simp [Value.cells] at hcs
      obtain ⟨rfl, rfl, rfl⟩ := hcs
      exact ⟨zs, .inr ⟨_, rfl, hl, hm, by simpa using hz, hcell, hwz⟩⟩
  clear hA0 hval0
  refine (walk a0 len0 cap0 z0 W w0).mono fun e W' ⟨he, bel⟩ => ?_
  subst he
  exact ⟨_, rfl, _, _, _, [], _, [], hW', trodAll_mk1 (shut_bool Tryd.underlying4 _), (trodAll_cons_mk (Below.trod laidOut (by kernel_rfl) (of_decide_eq_true (by kernel_rfl)) k0 bel lt0) trodAll_mk0), rfl, bel.frame _, fun h => by cases h⟩

theorem proved : Rows.FnRadsSaid :=
  OpenClaim.holds_of_wide 3 Tryd.f3 rfl rfl rfl rfl rfl rfl rfl ⟨rfl, rfl, rfl, rfl, rfl⟩ rfl rfl rfl rfl rfl (by kernel_rfl) Tryd.func3 (by kernel_rfl)
    (of_decide_eq_true (by kernel_rfl)) (by unfold Func.isWrapper; first | (rw [if_pos (by decide +kernel)]; kernel_rfl) | (rw [if_neg (by decide +kernel)]; exact ⟨rfl, rfl⟩))
    (fun os started H enc _ => lifted os started H enc)
end Go.Proofs.YtcnlimpebnhikaaDoor.fnRads

namespace Go.Proofs.YtcnlimpebnhikaaDoor
theorem fnRads_holds : Rows.FnRadsCardSaid :=
  Claim7.holds_tied_plain_at .later [] [.data, .pinned] true (true, "682a5e5cee0859f6dce181ae87ce3a557b2fd7ef918328178c24949b6e21e2b4") false
    fnRads.proved (fun _ h => by cases h) (by kernel_rfl) (fun _ h => by cases h) fnRads_row_tie rfl ⟨rfl, rfl⟩ (by kernel_rfl) rfl
    (fun f fn hf hfn => by
      obtain rfl : f = 3 := Option.some.inj ((show Tryd.prog.funcNamed "loop.example/g00329/laws.FnRads" = some 3 by kernel_rfl).symm.trans hf) |>.symm
      obtain rfl : fn = Tryd.f3 := (Option.some.inj (Tryd.func3.symm.trans hfn)).symm
      exact ⟨by kernel_rfl, fun j t ht => by
        rw [Tryd.params3] at ht
        have hm : t ∈ [22] := by simpa using Array.mem_of_getElem? ht
        have hall : ([22].all fun u => !Tryd.prog.wantsStandIn u) = true := by kernel_rfl
        exact (show Tryd.prog.wantsStandIn t = false by simpa using List.all_eq_true.1 hall t hm)⟩)
    (by kernel_rfl)
#print axioms fnRads_holds
end Go.Proofs.YtcnlimpebnhikaaDoor
