/- For every list of tokens the program's LineOf answers as the model's, and writes into no argument: the law FnExactLineOf returns true at every argument (where all its texts and places together are more than 1048576 it answers true with no call of the program); the tables that the card lists are as the library's text lays them. -/
import Derived.Test.YtmodomedkidlfaaDoorRows
import Derived.Test.YtmodomedkidlfaaDoorLiB
import Derived.Test.YtmodomedkidlfaaDoorLiE
import Derived.Test.YtmodomedkidlfaaDoorLiF
import Derived.Test.YtmodomedkidlfaaDoorTie
import Derived.Test.YtmodomedkidlfaaDoorCards
import Derived.SevenTiedAt
import Derived.Lay
import Derived.MakeChecks
import Derived.OpenVars
import Derived.WalkKit
import Derived.ProofKit
import Derived.OpenShut
import Derived.ShutString
import Derived.ChangeOld
import Derived.Below
namespace Go.Proofs.YtmodomedkidlfaaDoor.fnExactLineOf
open Go.ChangeShapes Go.WideShapes Go.ChangeAt Go.RowKit
open Go.ChangeMaps (open_string shut_string)
set_option linter.unusedVariables false
set_option maxRecDepth 8000

theorem own_rd {w : World} {B : Nat} {v : Value} {ts : List Tk} (h : OwnT w B v ts) : ∃ a cap, v = .slice a ts.length cap ∧ RdT w a ts := h.rd
set_option maxHeartbeats 2000000 in
theorem walk (a : Option Addr) (len cap : Nat) (ts : List Tk) (w : World) (hi : IsT w a len ts) (hg : w.cell? ⟨7, 7, none⟩ = some (.int .u8 3)) : Calls Tryd.prog 6 #[.slice a len cap] w fun e w' => e = .returned (.bool true) ∧ Below w.heap.size w w' := by
  have gl : 7 < w.heap.size := World.block_lt_of_cell? w _ hg
  have TB := hide (fun wr (h : Below w.heap.size w wr) => (h.cell (p := ⟨7, 7, none⟩) gl).trans hg)
  have RD := hide hi.rd
  have HL := hide hi.hlen
  have S := hide (szTokS_any a len cap ts w hi.hlen hi.max hi.each hi.rd)
  clear hg gl hi
  go_enter Tryd.func6, Tryd.ntmps6
  go_wp2_with fail
  refine (unhide S).mono ?_
  rintro e w1 ⟨h, hb1⟩
  have B1 := hide hb1
  have R1 := hide ((unhide RD).later hb1)
  clear S
  rcases h with rfl | ⟨hm, rfl⟩
  · go_wp2
    go_ret
    exact ⟨rfl, unhide B1⟩
  · have hm1 : len ≤ 1048576 := by omega
    have hnn : ¬ ((1048576 : Int) - (len : Int) - (szL ts : Int) < 0) := by omega
    have TT := hide (fun wr (h : RdT wr a ts) => toTokS_any a len cap ts wr (unhide HL) hm1 h)
    have LS := hide (fun wr x c (h : RdT wr x ts) => lineS_any x len c ts wr (unhide HL) hm h)
    have LI := hide (fun wr x c (h : RdT wr x ts) => lineI_any x len c ts wr (unhide HL) hm h)
    have EQ := hide (fun wr x y c d (h : RdT wr x ts) (k : RdT wr y ts) => eqTokS_same x y len c d ts wr (unhide HL) hm1 h k)
    generalize szL ts = zz at *
    generalize strOf (lineOf ts) = T at *
    clear hb1
    go_wp2_with fail
    refine (unhide TT _ (unhide R1)).mono ?_
    rintro e w2 ⟨v2, rfl, o2, hb2⟩
    have B2 := hide ((unhide B1).trans (hb2.mono (unhide B1).size))
    have R2 := hide ((unhide R1).later hb2)
    obtain ⟨x2, c2, rfl, r2⟩ := own_rd o2
    have S2 := hide (unhide LS w2 x2 c2 r2)
    rw [unhide HL]
    clear o2 hb2 r2 B1 R1
    go_wp2_with fail
    refine (unhide S2).mono ?_
    rintro e w3 ⟨rfl, hb3⟩
    have B3 := hide ((unhide B2).trans (hb3.mono (unhide B2).size))
    have R3 := hide ((unhide R2).later hb3)
    clear hb3 B2 R2 S2
    go_wp2_with fail
    refine (unhide TT _ (unhide R3)).mono ?_
    rintro e w4 ⟨v4, rfl, o4, hb4⟩
    have B4 := hide ((unhide B3).trans (hb4.mono (unhide B3).size))
    have R4 := hide ((unhide R3).later hb4)
    obtain ⟨x4, c4, rfl, r4⟩ := own_rd o4
    have X4 := hide r4
    have S4 := hide (unhide LI w4 x4 c4 r4 (unhide TB w4 (unhide B4)))
    rw [unhide HL]
    clear o4 hb4 r4 B3 R3
    go_wp2_with fail
    refine (unhide S4).mono ?_
    rintro e w5 ⟨rfl, hb5⟩
    have B5 := hide ((unhide B4).trans (hb5.mono (unhide B4).size))
    have R5 := hide ((unhide R4).later hb5)
    have X5 := hide ((unhide X4).later hb5)
    clear hb5 B4 R4 S4 X4
    go_wp2_with fail
    refine (unhide TT _ (unhide R5)).mono ?_
    rintro e w6 ⟨v6, rfl, o6, hb6⟩
    have B6 := hide ((unhide B5).trans (hb6.mono (unhide B5).size))
    obtain ⟨x6, c6, rfl, r6⟩ := own_rd o6
    have S6 := hide (unhide EQ w6 x4 x6 c4 c6 ((unhide X5).later hb6) r6)
    rw [unhide HL]
    clear o6 hb6 r6 B5 R5 X5
    go_wp2_with fail
    refine (unhide S6).mono ?_
    rintro e w7 ⟨rfl, hb7⟩
    have B7 := hide ((unhide B6).trans (hb7.mono (unhide B6).size))
    clear hb7 S6 B6
    go_wp2
    go_ret
    exact ⟨rfl, unhide B7⟩

set_option maxRecDepth 100000 in
theorem lifted (os : Os) (started : os.Started) (H : Type) (enc : TypeId × Value → H) :
    ReturnsInHanded {} Tryd.checked os 6 .any (fun w args => (Rows.fnExactLineOfSpec.pre enc Tryd.prog Tryd.f6 [] false w args ∧ laidMetH Tryd.prog Rows.fnExactLineOfRow.laid w) ∧ sizedMet enc Tryd.prog Tryd.f6 (OpenSpec.ofChange Rows.fnExactLineOfSpec) false w args)
      (Rows.fnExactLineOfSpec.post enc Tryd.prog Tryd.f6 false true false false) := by
  refine returnsInHanded_of_change_and (C := Tryd.checked) (X := fun w _ => laidMetH Tryd.prog Rows.fnExactLineOfRow.laid w) (fun _ _ _ hh h => h.of_heap hh) own started (by kernel_rfl) Tryd.func6
    (ChangeSpec.witness_shaped (enc := enc) (C := Tryd.checked) (os := os) (X := fun w _ => laidMetH Tryd.prog Rows.fnExactLineOfRow.laid w) false (World.laidAll Tryd.prog os Rows.fnExactLineOfRow.laid) #[.slice none 0 0] 8 (World.laidAll_os _ _ _)
      (World.shaped_of_ZipB (by kernel_rfl) (by kernel_rfl)) (by kernel_rfl) (by kernel_rfl) (by kernel_rfl)
      (by rw [MakeChecks.laidMetH_plain _ _ _ (by kernel_rfl)]; exact laidMet_laidAll _ (by kernel_rfl) (by kernel_rfl))) ?_
  intro W base args ds gs before hval0 hW _ _ hL _
  have hval : ∀ (j : Nat) t v, Tryd.f6.params[j]? = some t → args[j]? = some v → Value.okWide Tryd.prog W .any base t v := hval0
  have hW' := hW
  obtain ⟨p, q, hA0, hV, rfl, hfz, hnd⟩ := hW
  have hA : DataW.TrodAll enc Tryd.prog W 0 (fun _ => true) true Tryd.f6.params.toList args.toList ds p := hA0
  rw [Tryd.params6] at hA hval
  obtain ⟨v0, vs0, d0, ds0, p0, q0, hargs, rfl, rfl, h0, r0⟩ := trodAll_cons hA
  obtain ⟨rfl, rfl, rfl⟩ := trodAll_nil r0
  obtain rfl : args = #[v0] := by cases args; simp_all
  obtain ⟨rfl, rfl⟩ := trodVars_none hV
  have k0 := h0
  have lt0 : ∀ x ∈ p0, x.block < W.heap.size := by obtain ⟨m, hm⟩ := k0; exact DataW.trod_lt m _ _ _ hm
  obtain ⟨a0, len0, cap0, z0, rfl, w0⟩ := open_tks (hval 0 41 v0 rfl rfl) h0
  clear hA0 hval0
  refine (walk a0 len0 cap0 z0 W w0 (db_of_three hL)).mono fun e W' ⟨he, bel⟩ => ?_
  subst he
  exact ⟨_, rfl, _, _, _, [], _, [], hW', trodAll_mk1 (shut_bool Tryd.underlying4 _), (trodAll_cons_mk (Below.trod laidOut (by kernel_rfl) (of_decide_eq_true (by kernel_rfl)) k0 bel lt0) trodAll_mk0), rfl, bel.frame _, fun h => by cases h⟩

theorem proved : Rows.FnExactLineOfSaid :=
  OpenClaim.holds_of_wide 6 Tryd.f6 rfl rfl rfl rfl rfl rfl rfl ⟨rfl, rfl, rfl, rfl, rfl⟩ rfl rfl rfl rfl rfl (by kernel_rfl) Tryd.func6 (by kernel_rfl)
    (of_decide_eq_true (by kernel_rfl)) (by unfold Func.isWrapper; first | (rw [if_pos (by decide +kernel)]; kernel_rfl) | (rw [if_neg (by decide +kernel)]; exact ⟨rfl, rfl⟩))
    (fun os started H enc _ => lifted os started H enc)
end Go.Proofs.YtmodomedkidlfaaDoor.fnExactLineOf

namespace Go.Proofs.YtmodomedkidlfaaDoor
theorem fnExactLineOf_holds : Rows.FnExactLineOfCardSaid :=
  Claim7.holds_tied_plain_at .later [] [.data, .data, .data] true (true, "66c4d2696705622268f6c550c1cac78710c0bc553678f323a62a51adbbc97dd5") true
    fnExactLineOf.proved (fun _ h => by cases h) (by kernel_rfl) (fun _ h => by cases h) fnExactLineOf_row_tie rfl ⟨rfl, rfl⟩ (by kernel_rfl) rfl
    (fun f fn hf hfn => by
      obtain rfl : f = 6 := Option.some.inj ((show Tryd.prog.funcNamed "loop.example/g00329/laws.FnExactLineOf" = some 6 by kernel_rfl).symm.trans hf) |>.symm
      obtain rfl : fn = Tryd.f6 := (Option.some.inj (Tryd.func6.symm.trans hfn)).symm
      exact ⟨by kernel_rfl, fun j t ht => by
        rw [Tryd.params6] at ht
        have hm : t ∈ [41] := by simpa using Array.mem_of_getElem? ht
        have hall : ([41].all fun u => !Tryd.prog.wantsStandIn u) = true := by kernel_rfl
        exact (show Tryd.prog.wantsStandIn t = false by simpa using List.all_eq_true.1 hall t hm)⟩)
    (by kernel_rfl)
#print axioms fnExactLineOf_holds
end Go.Proofs.YtmodomedkidlfaaDoor
