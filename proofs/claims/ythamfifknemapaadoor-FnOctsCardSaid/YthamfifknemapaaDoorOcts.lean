/- For every slice of bytes: a drawn word comes back of its digits, and what is read of a drawn text has these digits: the law FnOcts returns true at every argument; the tables and sentinels that the card lists are as the program's text lays them. -/
import Derived.Test.YthamfifknemapaaDoorOctsC
import Derived.Test.YthamfifknemapaaDoorTie
import Derived.Test.YthamfifknemapaaDoorCards
import Derived.SevenTiedAt
namespace Go.Proofs.YthamfifknemapaaDoor.fnOcts
open Go.ChangeShapes Go.WideShapes Go.ChangeAt Go.RowKit
open Go.ChangeMaps (open_string shut_string)
set_option linter.unusedVariables false

set_option maxHeartbeats 1000000 in
theorem walk (a0 : Option Addr) (len0 cap0 : Nat) (z0 : List Int) (w : World) (w0 : Dr.IsRow .u8 w a0 len0 cap0 z0) (te1 te2 : TypeId) (pe1 pe2 : Value) (hv1 : w.cell? ⟨1, 0, none⟩ = some (.iface te1 pe1)) (hv2 : w.cell? ⟨2, 0, none⟩ = some (.iface te2 pe2)) (hg : w.cell? ⟨4, 7, none⟩ = some (.int .u8 3)) :
    Calls Tryd.prog 3 #[.slice a0 len0 cap0] w fun e w' => e = .returned (.bool true) ∧ Below w.heap.size w w' := by
  obtain ⟨xs, hl, hlc, hm, hr⟩ := Dr.rd_of_row w0
  unfold maxLen at hm
  have g4 : 4 < w.heap.size := World.block_lt_of_cell? w _ hg
  have V1 := hide hv1
  have V2 := hide hv2
  have VG := hide hg
  clear hv1 hv2 hg
  have LC : ∀ w', Below w.heap.size w w' → w'.cell? ⟨1, 0, none⟩ = some (.iface te1 pe1) ∧ w'.cell? ⟨2, 0, none⟩ = some (.iface te2 pe2) ∧ w'.cell? ⟨4, 7, none⟩ = some (.int .u8 3) := fun w' hb =>
    ⟨(hb.cell (p := ⟨1, 0, none⟩) (by show 1 < w.heap.size; omega)).trans (unhide V1), (hb.cell (p := ⟨2, 0, none⟩) (by show 2 < w.heap.size; omega)).trans (unhide V2), (hb.cell (p := ⟨4, 7, none⟩) (by show 4 < w.heap.size; omega)).trans (unhide VG)⟩
  have LC' := hide LC
  clear LC V1 V2 VG
  by_cases hbig : 1048576 < len0
  · go_enter Tryd.func3, Tryd.ntmps3
    go_wp2
    go_ret
    exact ⟨rfl, Below.refl _ _⟩
  · go_enter Tryd.func3, Tryd.ntmps3
    go_wp2_with fail
    refine (Dr.big_any a0 len0 cap0 w (by omega)).mono ?_
    rintro e w' ⟨he, hw'⟩
    rw [show decide ((1048576 : Int) < (len0 : Int)) = false by simp; omega] at he
    rw [hw', he]
    clear hw' he w'
    go_wp2_with fail
    refine (drawOct_any a0 len0 cap0 xs w hl (by omega) hr).mono ?_
    rintro e w1 ⟨n, rfl, hb1⟩
    obtain ⟨m, hm2⟩ := Int.eq_ofNat_of_zero_le (Int.emod_nonneg n (show (65536 : Int) ≠ 0 by omega))
    have hmlt : m < 65536 := by have := Int.emod_lt_of_pos n (show (0 : Int) < 65536 by omega); omega
    have HM := hide hm2
    clear hm2
    go_wp2_with fail
    refine (octI_any n w1 (unhide LC' w1 hb1).2.2).mono ?_
    rintro e w2 ⟨he, hb2⟩
    rw [unhide HM, Int.toNat_natCast] at he
    subst he
    have s1 := hb1.size
    have B2 : Below w.heap.size w w2 := hb1.trans (hb2.mono s1)
    have P2 := unhide LC' w2 B2
    have Q2 := hide (poI_yes m hmlt te1 te2 pe1 pe2 w2 P2.1 P2.2.1 P2.2.2)
    clear hb1 hb2 P2
    go_wp2_with fail
    refine (unhide Q2).mono ?_
    rintro e w3 ⟨rfl, hb3⟩
    have s2 := B2.size
    have B3 : Below w.heap.size w w3 := B2.trans (hb3.mono s2)
    clear hb3 B2 Q2
    go_wp2_with fail
    refine (drawParseOct_any a0 len0 cap0 xs w3 hl (by omega) (hr.later B3)).mono ?_
    rintro e w4 ⟨t, ht, rfl, hb4⟩
    have s3 := B3.size
    have B4 : Below w.heap.size w w4 := B3.trans (hb4.mono s3)
    have P4 := unhide LC' w4 B4
    have s4 := B4.size
    clear hb4 B3
    by_cases hyes : ∃ k, k < 65536 ∧ t = strOf (octD k)
    · obtain ⟨k, hk, rfl⟩ := hyes
      have Q4 := hide (poI_yes k hk te1 te2 pe1 pe2 w4 P4.1 P4.2.1 P4.2.2)
      clear P4
      go_wp2_with fail
      refine (unhide Q4).mono ?_
      rintro e w5 ⟨rfl, hb5⟩
      have B5 : Below w.heap.size w w5 := B4.trans (hb5.mono s4)
      have s5 := B5.size
      clear hb5 B4 Q4
      go_wp2_with fail
      refine (poS_any _ (by omega) w5).mono ?_
      rintro e w6 ⟨hb6, h⟩
      have B6 : Below w.heap.size w w6 := B5.trans (hb6.mono s5)
      have s6 := B6.size
      have P6 := hide (unhide LC' w6 B6).2.2
      rcases h with ⟨k2, hk2, hs2, he⟩ | ⟨hno, _⟩
      · subst he
        clear hs2 hb6 B5
        go_wp2_with fail
        refine (wrapI_any n w6).mono ?_
        rintro e w7 ⟨he, hw7⟩
        rw [unhide HM] at he
        rw [hw7, he]
        clear hw7 he w7
        go_wp2_with fail
        refine (octI_any k w6 (unhide P6)).mono ?_
        rintro e w8 ⟨he, hb8⟩
        rw [show ((k : Int) % 65536).toNat = k by omega] at he
        subst he
        go_wp2
        go_ret
        exact ⟨rfl, B6.trans (hb8.mono s6)⟩
      · exact absurd rfl (hno k hk)
    · have hno : ∀ k, k < 65536 → t ≠ strOf (octD k) := fun k hk e => hyes ⟨k, hk, e⟩
      have Q4 := hide (poI_no t hno (by omega) te1 te2 pe1 pe2 w4 P4.1 P4.2.1 P4.2.2)
      have HN := hide hno
      clear P4 hno hyes
      go_wp2_with fail
      refine (unhide Q4).mono ?_
      rintro e w5 ⟨rfl, hb5⟩
      have B5 : Below w.heap.size w w5 := B4.trans (hb5.mono s4)
      have s5 := B5.size
      clear hb5 B4 Q4
      go_wp2_with fail
      refine (poS_any _ (by omega) w5).mono ?_
      rintro e w6 ⟨hb6, h⟩
      have B6 : Below w.heap.size w w6 := B5.trans (hb6.mono s5)
      rcases h with ⟨k2, hk2, hs2, _⟩ | ⟨_, he⟩
      · exact absurd hs2 (unhide HN k2 hk2)
      · subst he
        clear hb6 B5
        go_wp2_with fail
        refine (wrapI_any n w6).mono ?_
        rintro e w7 ⟨he, hw7⟩
        rw [unhide HM] at he
        rw [hw7, he]
        clear hw7 he w7
        go_wp2
        go_ret
        exact ⟨rfl, B6⟩

theorem door_met (os : Os) (args : Array Value) : laidMetH Tryd.prog Rows.fnOctsRow.laid ((World.doorLaid Tryd.prog 400 os).forCall (fun _ _ => 0) ⟨#[], args, []⟩).memory :=
  laidMetH_of_parts3 (fuel := 8) (laidMet_of_run' 8 (by kernel_rfl) (by kernel_rfl)) (by kernel_rfl) (by kernel_rfl)

set_option maxRecDepth 100000 in
theorem lifted (os : Os) (started : os.Started) (H : Type) (enc : TypeId × Value → H) :
    ReturnsInHanded {} Tryd.checked os 3 .any (fun w args => (Rows.fnOctsSpec.pre enc Tryd.prog Tryd.f3 [] false w args ∧ laidMetH Tryd.prog Rows.fnOctsRow.laid w) ∧ sizedMet enc Tryd.prog Tryd.f3 (OpenSpec.ofChange Rows.fnOctsSpec) false w args)
      (Rows.fnOctsSpec.post enc Tryd.prog Tryd.f3 false true false false) := by
  refine returnsInHanded_of_change_and (C := Tryd.checked) (X := fun w _ => laidMetH Tryd.prog Rows.fnOctsRow.laid w) (fun _ _ _ hh h => h.of_heap hh) own started (by kernel_rfl) Tryd.func3
    (ChangeSpec.witness_shaped (enc := enc) (C := Tryd.checked) (os := os) (X := fun w _ => laidMetH Tryd.prog Rows.fnOctsRow.laid w) false (World.doorLaid Tryd.prog 400 os) #[.slice none 0 0] 8 rfl (World.shaped_of_RefB (by kernel_rfl) (by kernel_rfl)) (by kernel_rfl) (by kernel_rfl) (by kernel_rfl) (door_met os _)) ?_
  intro W base args ds gs before hval0 hW _ _ hL _
  have hval : ∀ (j : Nat) t v, Tryd.f3.params[j]? = some t → args[j]? = some v → Value.okWide Tryd.prog W .any base t v := hval0
  have hW' := hW
  obtain ⟨p, q, hA0, hV, rfl, hfz, hnd⟩ := hW
  have hA : DataW.TrodAll enc Tryd.prog W 0 (fun _ => true) true Tryd.f3.params.toList args.toList ds p := hA0
  rw [Tryd.params3] at hA hval
  obtain ⟨v0, vs0, d0, ds0, p0, q0, hargs, rfl, rfl, h0, r0⟩ := trodAll_cons hA
  obtain ⟨rfl, rfl, rfl⟩ := trodAll_nil r0
  obtain rfl : args = #[v0] := by cases args; simp_all
  obtain ⟨rfl, rfl⟩ := trodVars_none hV
  obtain ⟨a0, len0, cap0, rfl⟩ := okWide_slice Tryd.underlying22 (hval 0 22 v0 rfl rfl)
  have k0 := h0
  have lt0 : ∀ x ∈ p0, x.block < W.heap.size := by obtain ⟨m, hm⟩ := k0; exact DataW.trod_lt m _ _ _ hm
  obtain ⟨z0, w0⟩ : ∃ zs, Dr.IsRow .u8 W a0 len0 cap0 zs := by
    obtain ⟨fuel, hf⟩ := h0
    rcases open_ints Tryd.underlying22 Tryd.underlying5 (by kernel_rfl) hf with ⟨hcs, _⟩ | ⟨x, l, c, zs, hcs, _, hl, hm, hz, _, hcell, hwz⟩
    · simp [Value.cells] at hcs
      obtain ⟨rfl, rfl, rfl⟩ := hcs
      exact ⟨[], .inl ⟨rfl, rfl, rfl, rfl⟩⟩
    · simp [Value.cells] at hcs
      obtain ⟨rfl, rfl, rfl⟩ := hcs
      exact ⟨zs, .inr ⟨_, rfl, hl, hm, by simpa using hz, hcell, hwz⟩⟩
  have hL' : laidMetH Tryd.prog Rows.fnOctsRow.laid W := hL
  rw [MakeChecks.laidMetH_plain _ _ _ (by kernel_rfl)] at hL'
  have hg := of_tab hL'
  obtain ⟨te1, pe1, te2, pe2, hv1, hv2⟩ := of_sent hL'
  clear hA0 hval0
  refine (walk a0 len0 cap0 z0 W w0 te1 te2 pe1 pe2 hv1 hv2 hg).mono fun e W' ⟨he, bel⟩ => ?_
  subst he
  exact ⟨_, rfl, _, _, _, [], _, [], hW', trodAll_mk1 (shut_bool Tryd.underlying4 _), (trodAll_cons_mk (Below.trod laidOut (by kernel_rfl) (of_decide_eq_true (by kernel_rfl)) k0 bel lt0) trodAll_mk0), rfl, bel.frame _, fun h => by cases h⟩

theorem proved : Rows.FnOctsSaid :=
  OpenClaim.holds_of_wide 3 Tryd.f3 rfl rfl rfl rfl rfl rfl rfl ⟨rfl, rfl, rfl, rfl, rfl⟩ rfl rfl rfl rfl rfl (by kernel_rfl) Tryd.func3 (by kernel_rfl)
    (of_decide_eq_true (by kernel_rfl)) (by unfold Func.isWrapper; first | (rw [if_pos (by decide +kernel)]; kernel_rfl) | (rw [if_neg (by decide +kernel)]; exact ⟨rfl, rfl⟩))
    (fun os started H enc _ => lifted os started H enc)
end Go.Proofs.YthamfifknemapaaDoor.fnOcts

namespace Go.Proofs.YthamfifknemapaaDoor
theorem fnOcts_holds : Rows.FnOctsCardSaid :=
  Claim7.holds_tied_plain_at .later [] [.data, .data, .data, .sentinel, .sentinel] true (true, "a04569f80a6bcf4d81090d0ddb232293cc033a996a3a2824557dd672eb07090f") true
    fnOcts.proved (fun _ h => by cases h) (by kernel_rfl) (fun _ h => by cases h) fnOcts_row_tie rfl ⟨rfl, rfl⟩ (by kernel_rfl) rfl
    (fun f fn hf hfn => by
      obtain rfl : f = 3 := Option.some.inj ((show Tryd.prog.funcNamed "loop.example/g00329/laws.FnOcts" = some 3 by kernel_rfl).symm.trans hf) |>.symm
      obtain rfl : fn = Tryd.f3 := (Option.some.inj (Tryd.func3.symm.trans hfn)).symm
      exact ⟨by kernel_rfl, fun j t ht => by
        rw [Tryd.params3] at ht
        have hm : t ∈ [22] := by simpa using Array.mem_of_getElem? ht
        have hall : ([22].all fun u => !Tryd.prog.wantsStandIn u) = true := by kernel_rfl
        exact (show Tryd.prog.wantsStandIn t = false by simpa using List.all_eq_true.1 hall t hm)⟩)
    (by kernel_rfl)
#print axioms fnOcts_holds
end Go.Proofs.YthamfifknemapaaDoor
