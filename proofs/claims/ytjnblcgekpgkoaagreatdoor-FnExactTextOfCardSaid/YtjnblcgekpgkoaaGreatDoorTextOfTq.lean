/- For every list of lines the program's TextOf answers as the model's and writes into no argument: the law FnExactTextOf returns true at every argument (where the lines, their texts and lists together count more than 1048576 it answers true with no call of the program); the tables that the card lists are as the program's text lays them. -/
import Derived.Test.YtjnblcgekpgkoaaGreatDoorRows
import Derived.Test.YtjnblcgekpgkoaaGreatDoorTqF
import Derived.Test.YtjnblcgekpgkoaaGreatDoorTqG
import Derived.Lib.SmallJoins
import Derived.Test.YtjnblcgekpgkoaaGreatDoorTie
import Derived.Test.YtjnblcgekpgkoaaGreatDoorCards
import Derived.SevenTiedAt
import Derived.Lay
import Derived.MakeChecks
import Derived.OpenVars
import Derived.WalkKit
import Derived.ProofKit
import Derived.OpenShut
import Derived.ShutString
import Derived.ChangeOld
import Derived.Below

namespace Go.Proofs.YtjnblcgekpgkoaaGreatDoor.fnExactTextOf
open Go.ChangeShapes Go.WideShapes Go.ChangeAt Go.RowKit
open Go.ChangeMaps (open_string shut_string)
set_option linter.unusedVariables false
set_option maxRecDepth 8000

set_option maxHeartbeats 16000000 in
theorem walk (a : Option Addr) (cap : Nat) (l : List Ln) (ps : List La) (w : World) (hr : RdLa w a l ps) (ht : TabL w) : Calls Tryz.prog 7 #[.slice a l.length cap] w fun e w' => e = .returned (.bool true) ∧ Below w.heap.size w w' := by
  have SZ := hide (szP_any l ps a cap 1048576 w hr (by omega) (by omega))
  by_cases hbig : (1048576 : Int) - ((l.length + zzP l : Nat) : Int) < 0
  · rw [show lessX 1048576 (l.length + zzP l) = -1 by unfold lessX; rw [if_pos hbig]] at SZ
    clear hr ht
    generalize l.length = n at *
    go_enter Tryz.func7, Tryz.ntmps7
    go_wp2_with fail
    refine (uh SZ).mono ?_
    rintro r w1 ⟨rfl, hb1⟩
    have B1 := hide hb1
    clear hb1
    go_wp2
    go_ret
    exact ⟨rfl, uh B1⟩
  have hl : l.length ≤ 1048576 := by omega
  have hz : ∀ i, i < l.length → SzL (l.getD i ln0) ∧ (Ex.mk 0 0 E0 (l.getD i ln0).l).sz ≤ 1048576 := fun i hi => by
    have q := zzP_at l i hi
    have q2 : (l.getD i ln0).zz ≤ 1048576 := by omega
    refine ⟨SzL.of q2, ?_⟩
    generalize l.getD i ln0 = x at *
    have h2 := sz_is ⟨0, 0, E0, x.l⟩
    have h3 : (Ex.mk 0 0 E0 x.l).l = x.l := rfl
    have h4 : (Ex.mk 0 0 E0 x.l).s.size = 0 := rfl
    rw [h3, h4] at h2
    unfold Ln.zz at q2
    omega
  rw [show lessX 1048576 (l.length + zzP l) = 1048576 - ((l.length + zzP l : Nat) : Int) by unfold lessX; rw [if_neg hbig]] at SZ
  have hp1 : ¬ (1048576 : Int) - ((l.length + zzP l : Nat) : Int) < 0 := hbig
  generalize (1048576 : Int) - ((l.length + zzP l : Nat) : Int) = mm at *
  have hp2 : decide (mm < 0) = false := decide_eq_false hp1
  have TO := hide (fun wr (h : Below w.heap.size w wr) => toP_any l ps a cap wr (hr.later h) hz hl)
  have TS := hide (fun (v : Value) (qs : List La) (wr : World) h => toS l qs v wr h (fun i hi => (hz i hi).1) hl)
  have TI := hide (fun (v : Value) (qs : List La) (wr : World) h (hb : Below w.heap.size w wr) => toI l qs v wr h (fun i hi => (hz i hi).1) hl (ht.next hb))
  have EQ := hide (fun (qs qt : List La) (va vb : Value) (wr : World) h1 h2 => eqP_same l qs qt va vb wr h1 h2 hz hl)
  clear hz hl ht hr
  generalize strOf (txB l) = tx at *
  generalize l.length = n at *
  go_enter Tryz.func7, Tryz.ntmps7
  go_wp2_with fail
  refine (uh SZ).mono ?_
  rintro r w1 ⟨rfl, hb1⟩
  have B1 := hide hb1
  have X1 := hide (uh TO w1 hb1)
  clear hb1 SZ
  go_wp2_with fail
  refine (uh X1).mono ?_
  rintro r w2 ⟨v2, q2, rfl, hr2, hb2⟩
  have B2 := hide ((uh B1).trans (hb2.mono (uh B1).size))
  have X2 := hide (uh TS v2 q2 w2 hr2)
  clear hb2 hr2 X1 B1 TS
  go_wp2_with fail
  refine (uh X2).mono ?_
  rintro r w3 ⟨rfl, hb3⟩
  have B3 := hide ((uh B2).trans (hb3.mono (uh B2).size))
  have X3 := hide (uh TO w3 (uh B3))
  clear hb3 X2 B2
  go_wp2_with fail
  refine (uh X3).mono ?_
  rintro r w4 ⟨v4, q4, rfl, hr4, hb4⟩
  have B4 := hide ((uh B3).trans (hb4.mono (uh B3).size))
  have X4 := hide (uh TI v4 q4 w4 hr4 (uh B4))
  have R4 := hide hr4
  clear hb4 hr4 X3 B3 TI
  go_wp2_with fail
  refine (uh X4).mono ?_
  rintro r w5 ⟨rfl, hb5⟩
  have B5 := hide ((uh B4).trans (hb5.mono (uh B4).size))
  have R5 := hide ((uh R4).later hb5)
  have X5 := hide (uh TO w5 (uh B5))
  clear hb5 X4 B4 R4 TO
  go_wp2_with fail
  refine (uh X5).mono ?_
  rintro r w6 ⟨v6, q6, rfl, hr6, hb6⟩
  have B6 := hide ((uh B5).trans (hb6.mono (uh B5).size))
  have X6 := hide (uh EQ q4 q6 v4 v6 w6 ((uh R5).later hb6) hr6)
  clear hb6 hr6 X5 B5 R5 EQ
  go_wp2_with fail
  refine (uh X6).mono ?_
  rintro r w7 ⟨rfl, hb7⟩
  have B7 := hide ((uh B6).trans (hb7.mono (uh B6).size))
  clear hb7 X6 B6
  go_wp2
  go_ret
  exact ⟨rfl, uh B7⟩

set_option maxRecDepth 100000 in
theorem lifted (os : Os) (started : os.Started) (H : Type) (enc : TypeId × Value → H) :
    ReturnsInHanded {} Tryz.checked os 7 .any (fun w args => (Rows.fnExactTextOfSpec.pre enc Tryz.prog Tryz.f7 [] false w args ∧ laidMetH Tryz.prog Rows.fnExactTextOfRow.laid w) ∧ sizedMet enc Tryz.prog Tryz.f7 (OpenSpec.ofChange Rows.fnExactTextOfSpec) false w args)
      (Rows.fnExactTextOfSpec.post enc Tryz.prog Tryz.f7 false true false false) := by
  refine returnsInHanded_of_change_and (C := Tryz.checked) (X := fun w _ => laidMetH Tryz.prog Rows.fnExactTextOfRow.laid w) (fun _ _ _ hh h => h.of_heap hh) own started (by kernel_rfl) Tryz.func7
    (ChangeSpec.witness_shaped (enc := enc) (C := Tryz.checked) (os := os) (X := fun w _ => laidMetH Tryz.prog Rows.fnExactTextOfRow.laid w) false (World.laidAll Tryz.prog os Rows.fnExactTextOfRow.laid) #[.slice none 0 0] 8 (World.laidAll_os _ _ _)
      (World.shaped_of_ZipB (by kernel_rfl) (by kernel_rfl)) (by kernel_rfl) (by kernel_rfl) (by kernel_rfl)
      (by rw [MakeChecks.laidMetH_plain _ _ _ (by kernel_rfl)]; exact laidMet_laidAll _ (by kernel_rfl) (by kernel_rfl))) ?_
  intro W base args ds gs before hval0 hW _ _ hL _
  have hval : ∀ (j : Nat) t v, Tryz.f7.params[j]? = some t → args[j]? = some v → Value.okWide Tryz.prog W .any base t v := hval0
  have hW' := hW
  obtain ⟨p, q, hA0, hV, rfl, hfz, hnd⟩ := hW
  have hA : DataW.TrodAll enc Tryz.prog W 0 (fun _ => true) true Tryz.f7.params.toList args.toList ds p := hA0
  rw [Tryz.params7] at hA hval
  obtain ⟨v0, vs0, d0, ds0, p0, q0, hargs, rfl, rfl, h0, r0⟩ := trodAll_cons hA
  obtain ⟨rfl, rfl, rfl⟩ := trodAll_nil r0
  obtain rfl : args = #[v0] := by cases args; simp_all
  have kV := hV
  obtain ⟨dv, du, dt, ds, dr, rfl⟩ := varsL_5 hV
  have k0 := h0
  have lt0 : ∀ x ∈ p0, x.block < W.heap.size := by obtain ⟨m, hm⟩ := k0; exact DataW.trod_lt m _ _ _ hm
  obtain ⟨a0, c0, l0, b0, rfl, g0⟩ := open_lns (hval 0 54 v0 rfl rfl) h0
  clear hA0 hval0
  refine (walk a0 c0 l0 b0 W g0 (tabl_of hL)).mono fun e W' ⟨he, bel⟩ => ?_
  subst he
  exact ⟨_, rfl, _, _, _, [], _, _, hW', trodAll_mk1 (shut_bool Tryz.underlying4 _), (trodAll_cons_mk (Below.trod laidOut (by kernel_rfl) (of_decide_eq_true (by kernel_rfl)) k0 bel lt0) trodAll_mk0), bel.trodVars laidOut (by kernel_rfl) kV, bel.frame _, fun h => by cases h⟩

theorem proved : Rows.FnExactTextOfSaid :=
  OpenClaim.holds_of_wide 7 Tryz.f7 rfl rfl rfl rfl rfl rfl rfl ⟨rfl, rfl, rfl, rfl, rfl⟩ rfl rfl rfl rfl rfl (by kernel_rfl) Tryz.func7 (by kernel_rfl)
    (of_decide_eq_true (by kernel_rfl)) (by unfold Func.isWrapper; first | (rw [if_pos (by decide +kernel)]; kernel_rfl) | (rw [if_neg (by decide +kernel)]; exact ⟨rfl, rfl⟩))
    (fun os started H enc _ => lifted os started H enc)
end Go.Proofs.YtjnblcgekpgkoaaGreatDoor.fnExactTextOf

namespace Go.Proofs.YtjnblcgekpgkoaaGreatDoor
theorem fnExactTextOf_holds : Rows.FnExactTextOfCardSaid :=
  Claim7.holds_tied_plain_at .later [] [.data, .data, .data, .data, .data, .data, .data, .data] true (true, "6915b1a5654352903017b01b7b9d4a43314dcc55d8391807e1b439549ad65152") true
    fnExactTextOf.proved (fun _ h => by cases h) (by kernel_rfl) (fun _ h => by cases h) fnExactTextOf_row_tie rfl ⟨rfl, rfl⟩ (by kernel_rfl) rfl
    (fun f fn hf hfn => by
      obtain rfl : f = 7 := Option.some.inj ((show Tryz.prog.funcNamed "loop.example/g00329/laws.FnExactTextOf" = some 7 by kernel_rfl).symm.trans hf) |>.symm
      obtain rfl : fn = Tryz.f7 := (Option.some.inj (Tryz.func7.symm.trans hfn)).symm
      exact ⟨by kernel_rfl, fun j t ht => by
        rw [Tryz.params7] at ht
        have hm : t ∈ [54] := by simpa using Array.mem_of_getElem? ht
        have hall : ([54].all fun u => !Tryz.prog.wantsStandIn u) = true := by kernel_rfl
        exact (show Tryz.prog.wantsStandIn t = false by simpa using List.all_eq_true.1 hall t hm)⟩)
    (by kernel_rfl)
#print axioms fnExactTextOf_holds
end Go.Proofs.YtjnblcgekpgkoaaGreatDoor
