/- For every text, the program's ParseOct answers as the model's ParseOct: the law FnExactParseOct returns true at every argument; the tables and sentinels that the card lists are as the program's text lays them. -/
import Derived.Test.YthamfifknemapaaDoorLaid5
import Derived.Test.YthamfifknemapaaDoorTie
import Derived.Test.YthamfifknemapaaDoorCards
import Derived.SevenTiedAt
namespace Go.Proofs.YthamfifknemapaaDoor.fnExactParseOct
open Go.ChangeShapes Go.WideShapes Go.ChangeAt Go.RowKit
open Go.ChangeMaps (open_string shut_string)
set_option linter.unusedVariables false

theorem walk (s : ByteArray) (hs : s.size ≤ maxLen) (w : World) (te1 te2 : TypeId) (pe1 pe2 : Value) (hv1 : w.cell? ⟨1, 0, none⟩ = some (.iface te1 pe1)) (hv2 : w.cell? ⟨2, 0, none⟩ = some (.iface te2 pe2)) (hg : w.cell? ⟨4, 7, none⟩ = some (.int .u8 3)) :
    Calls Tryd.prog 5 #[.string s] w fun e w' => e = .returned (.bool true) ∧ Below w.heap.size w w' := by
  unfold maxLen at hs
  have g4 : 4 < w.heap.size := World.block_lt_of_cell? w _ hg
  have V1 := hide hv1
  have V2 := hide hv2
  have VG := hide hg
  clear hv1 hv2 hg
  by_cases hbig : 1048576 < s.size
  · go_enter Tryd.func5, Tryd.ntmps5
    go_wp2
    go_ret
    exact ⟨rfl, Below.refl _ _⟩
  · go_enter Tryd.func5, Tryd.ntmps5
    go_wp2_with fail
    refine (poS_any s (by omega) w).mono ?_
    rintro e w1 ⟨hb1, h⟩
    have c1 := hide ((hb1.cell (p := ⟨1, 0, none⟩) (by show 1 < w.heap.size; omega)).trans (unhide V1))
    have c2 := hide ((hb1.cell (p := ⟨2, 0, none⟩) (by show 2 < w.heap.size; omega)).trans (unhide V2))
    have c4 := hide ((hb1.cell (p := ⟨4, 7, none⟩) (by show 4 < w.heap.size; omega)).trans (unhide VG))
    have s1 := hb1.size
    rcases h with ⟨m, hm, hsm, he⟩ | ⟨hno, he⟩
    · subst he
      have HS := hide hsm
      clear hsm
      have H := hide (poI_yes m hm te1 te2 pe1 pe2 w1 (unhide c1) (unhide c2) (unhide c4))
      rw [← unhide HS] at H
      go_wp2_with fail
      refine (unhide H).mono ?_
      rintro e w2 ⟨rfl, hb2⟩
      go_wp2
      go_ret
      exact ⟨rfl, hb1.trans (hb2.mono s1)⟩
    · subst he
      have H := hide (poI_no s hno (by omega) te1 te2 pe1 pe2 w1 (unhide c1) (unhide c2) (unhide c4))
      clear hno
      go_wp2_with fail
      refine (unhide H).mono ?_
      rintro e w2 ⟨rfl, hb2⟩
      go_wp2
      go_ret
      exact ⟨rfl, hb1.trans (hb2.mono s1)⟩

set_option maxRecDepth 100000 in
theorem lifted (os : Os) (started : os.Started) (H : Type) (enc : TypeId × Value → H) :
    ReturnsInHanded {} Tryd.checked os 5 .any (fun w args => (Rows.fnExactParseOctSpec.pre enc Tryd.prog Tryd.f5 [] false w args ∧ laidMetH Tryd.prog Rows.fnExactParseOctRow.laid w) ∧ sizedMet enc Tryd.prog Tryd.f5 (OpenSpec.ofChange Rows.fnExactParseOctSpec) false w args)
      (Rows.fnExactParseOctSpec.post enc Tryd.prog Tryd.f5 false true false false) := by
  refine returnsInHanded_of_change_and (C := Tryd.checked) (X := fun w _ => laidMetH Tryd.prog Rows.fnExactParseOctRow.laid w) (fun _ _ _ hh h => h.of_heap hh) own started (by kernel_rfl) Tryd.func5
    (ChangeSpec.witness_shaped (enc := enc) (C := Tryd.checked) (os := os) (X := fun w _ => laidMetH Tryd.prog Rows.fnExactParseOctRow.laid w) false (World.doorLaid Tryd.prog 400 os) #[.string ⟨#[]⟩] 8 rfl (World.shaped_of_RefB (by kernel_rfl) (by kernel_rfl)) (by kernel_rfl) (by kernel_rfl) (by kernel_rfl) (door_met5 os _)) ?_
  intro W base args ds gs before hval0 hW _ _ hL _
  have hval : ∀ (j : Nat) t v, Tryd.f5.params[j]? = some t → args[j]? = some v → Value.okWide Tryd.prog W .any base t v := hval0
  have hW' := hW
  obtain ⟨p, q, hA0, hV, rfl, hfz, hnd⟩ := hW
  have hA : DataW.TrodAll enc Tryd.prog W 0 (fun _ => true) true Tryd.f5.params.toList args.toList ds p := hA0
  rw [Tryd.params5] at hA hval
  obtain ⟨v0, d0, rfl, rfl, h0⟩ := trodAll_one hA
  obtain ⟨rfl, rfl⟩ := trodVars_none hV
  obtain ⟨a0, rfl, rfl, rfl, w0⟩ := open_string Tryd.underlying9 (hval 0 9 v0 rfl rfl) h0
  have hL' : laidMetH Tryd.prog Rows.fnExactParseOctRow.laid W := hL
  rw [MakeChecks.laidMetH_plain _ _ _ (by kernel_rfl)] at hL'
  have hg := of_tab hL'
  obtain ⟨te1, pe1, te2, pe2, hv1, hv2⟩ := of_sent hL'
  clear hA0 hval0
  simp only [List.append_nil] at hW'
  refine (walk a0 w0 W te1 te2 pe1 pe2 hv1 hv2 hg).mono fun e W' ⟨he, bel⟩ => ?_
  subst he
  exact ⟨_, rfl, _, _, _, [], [], [], hW', trodAll_mk1 (shut_bool Tryd.underlying4 _), trodAll_mk1 (shut_string Tryd.underlying9 w0), rfl, bel.frame _, fun h => by cases h⟩

theorem proved : Rows.FnExactParseOctSaid :=
  OpenClaim.holds_of_wide 5 Tryd.f5 rfl rfl rfl rfl rfl rfl rfl ⟨rfl, rfl, rfl, rfl, rfl⟩ rfl rfl rfl rfl rfl (by kernel_rfl) Tryd.func5 (by kernel_rfl)
    (of_decide_eq_true (by kernel_rfl)) (by unfold Func.isWrapper; first | (rw [if_pos (by decide +kernel)]; kernel_rfl) | (rw [if_neg (by decide +kernel)]; exact ⟨rfl, rfl⟩))
    (fun os started H enc _ => lifted os started H enc)
end Go.Proofs.YthamfifknemapaaDoor.fnExactParseOct

namespace Go.Proofs.YthamfifknemapaaDoor
theorem fnExactParseOct_holds : Rows.FnExactParseOctCardSaid :=
  Claim7.holds_tied_plain_at .later [] [.data, .data, .data, .sentinel, .sentinel] true (true, "a04569f80a6bcf4d81090d0ddb232293cc033a996a3a2824557dd672eb07090f") true
    fnExactParseOct.proved (fun _ h => by cases h) (by kernel_rfl) (fun _ h => by cases h) fnExactParseOct_row_tie rfl ⟨rfl, rfl⟩ (by kernel_rfl) rfl
    (fun f fn hf hfn => by
      obtain rfl : f = 5 := Option.some.inj ((show Tryd.prog.funcNamed "loop.example/g00329/laws.FnExactParseOct" = some 5 by kernel_rfl).symm.trans hf) |>.symm
      obtain rfl : fn = Tryd.f5 := (Option.some.inj (Tryd.func5.symm.trans hfn)).symm
      exact ⟨by kernel_rfl, fun j t ht => by
        rw [Tryd.params5] at ht
        have hm : t ∈ [9] := by simpa using Array.mem_of_getElem? ht
        have hall : ([9].all fun u => !Tryd.prog.wantsStandIn u) = true := by kernel_rfl
        exact (show Tryd.prog.wantsStandIn t = false by simpa using List.all_eq_true.1 hall t hm)⟩)
    (by kernel_rfl)
#print axioms fnExactParseOct_holds
end Go.Proofs.YthamfifknemapaaDoor
