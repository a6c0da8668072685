/- For every token, whatever its fields, the program's TokenOk answers as the model's: the law FnExactTokenOk returns true at every argument; the two tables of kept words that the card lists are as the program's text lays them. -/
import Derived.Test.YtmodomedkidlfaaDoorRows
import Derived.Test.YtmodomedkidlfaaDoorTkF
import Derived.Test.YtmodomedkidlfaaDoorTkG
import Derived.Test.YtmodomedkidlfaaDoorTkH
import Derived.Test.YtmodomedkidlfaaDoorTie
import Derived.Test.YtmodomedkidlfaaDoorCards
import Derived.SevenTiedAt
import Derived.Lay
import Derived.MakeChecks
import Derived.OpenVars
import Derived.WalkKit
import Derived.ProofKit
import Derived.OpenShut
import Derived.ShutString
import Derived.ChangeOld
import Derived.Below
namespace Go.Proofs.YtmodomedkidlfaaDoor.fnExactTokenOk
open Go.ChangeShapes Go.WideShapes Go.ChangeAt Go.RowKit
open Go.ChangeMaps (open_string shut_string)
set_option linter.unusedVariables false
set_option maxRecDepth 8000

set_option maxHeartbeats 1000000 in
theorem walk (t : Tk) (hm : t.s.size ≤ maxLen) (w : World) (ht : TabK w) : Calls Tryd.prog 5 #[t.v] w fun e w' => e = .returned (.bool true) ∧ Below w.heap.size w w' := by
  have hm' : t.s.size ≤ 9223372036854775807 := by unfold maxLen at hm; omega
  have B0 := hide (below_new w (.cells t.cs 37))
  have R0 := hide (heap_alloc_new w (.cells t.cs 37))
  have Z0 := hide (show w.heap.size ≤ (w.alloc (.cells t.cs 37)).heap.size by simp)
  have T0 := hide (ht.next (unhide B0))
  have S := hide (szTok_any t 1048576 (w.alloc (.cells t.cs 37)) hm' (by omega) (by omega))
  have HT := hide (fun w => toTok_any t w)
  have HS := hide (fun w h => tokS_any t w h)
  have HI := hide (fun w h ht => tokI_any t w h ht)
  have HZ := hide (show (Tryd.prog.info? 37).map (·.size) = some t.cs.size by kernel_rfl)
  unfold Tk.v at *
  generalize t.ok = q at *
  generalize t.cs = cc at *
  generalize hzz : t.s.size = z at *
  clear hm hzz
  by_cases hlt : (1048576 : Int) - (z : Int) < 0
  · rw [if_pos hlt] at S
    clear HT HS HI T0
    go_enter Tryd.func5, Tryd.ntmps5
    go_wp2_with (first | (refine wpList_load_row rfl 37 _ rfl w.heap.size rfl 37 cc (0, 0) _ (unhide R0) Tryd.underlying37 rfl (unhide HZ) ?_) | (go_at_call 20; refine (unhide S).mono ?_; rintro e w1 ⟨rfl, hb1⟩))
    go_ret
    exact ⟨rfl, (unhide B0).trans (hb1.mono (unhide Z0))⟩
  · rw [if_neg hlt] at S
    have hz40 : z ≤ 1099511627776 := by omega
    have HS' := hide (fun w => unhide HS w hz40)
    have HI' := hide (fun w => unhide HI w hz40)
    clear HS HI
    go_enter Tryd.func5, Tryd.ntmps5
    go_wp2_with (refine wpList_load_row rfl 37 _ rfl w.heap.size rfl 37 cc (0, 0) _ (unhide R0) Tryd.underlying37 rfl (unhide HZ) ?_)
    generalize w.alloc (Obj.cells cc 37) = W at *
    refine (unhide S).mono ?_
    rintro e w1 ⟨rfl, hb1⟩
    have R1 := hide ((hb1.block _ (Array.getElem?_eq_some_iff.1 (unhide R0)).1).trans (unhide R0))
    have B1 := hide ((unhide B0).trans (hb1.mono (unhide Z0)))
    have T1 := hide ((unhide T0).next hb1)
    have Z1 := hide (Nat.le_trans (unhide Z0) hb1.size)
    clear hb1 R0 B0 T0 S Z0
    go_wp2_with (refine wpList_load_row rfl 37 _ rfl w.heap.size rfl 37 cc (0, 0) _ (unhide R1) Tryd.underlying37 rfl (unhide HZ) ?_)
    refine (unhide HT _).mono ?_
    rintro e w2 ⟨rfl, hb2⟩
    have R2 := hide ((hb2.block _ (Array.getElem?_eq_some_iff.1 (unhide R1)).1).trans (unhide R1))
    have B2 := hide ((unhide B1).trans (hb2.mono (unhide Z1)))
    have T2 := hide ((unhide T1).next hb2)
    have Z2 := hide (Nat.le_trans (unhide Z1) hb2.size)
    clear hb2 R1 B1 T1 Z1
    go_wp2_with fail
    refine (unhide HS' _).mono ?_
    rintro e w3 ⟨rfl, hb3⟩
    have R3 := hide ((hb3.block _ (Array.getElem?_eq_some_iff.1 (unhide R2)).1).trans (unhide R2))
    have B3 := hide ((unhide B2).trans (hb3.mono (unhide Z2)))
    have T3 := hide ((unhide T2).next hb3)
    have Z3 := hide (Nat.le_trans (unhide Z2) hb3.size)
    clear hb3 R2 B2 T2 Z2
    go_wp2_with (refine wpList_load_row rfl 37 _ rfl w.heap.size rfl 37 cc (0, 0) _ (unhide R3) Tryd.underlying37 rfl (unhide HZ) ?_)
    refine (unhide HT _).mono ?_
    rintro e w4 ⟨rfl, hb4⟩
    have B4 := hide ((unhide B3).trans (hb4.mono (unhide Z3)))
    have T4 := hide ((unhide T3).next hb4)
    have Z4 := hide (Nat.le_trans (unhide Z3) hb4.size)
    clear hb4 R3 B3 T3 Z3
    go_wp2_with fail
    refine (unhide HI' _ (unhide T4)).mono ?_
    rintro e w5 ⟨rfl, hb5⟩
    have B5 := hide ((unhide B4).trans (hb5.mono (unhide Z4)))
    clear hb5 B4 T4 Z4
    go_wp2
    go_ret
    exact ⟨rfl, unhide B5⟩

set_option maxRecDepth 100000 in
theorem lifted (os : Os) (started : os.Started) (H : Type) (enc : TypeId × Value → H) :
    ReturnsInHanded {} Tryd.checked os 5 .any (fun w args => (Rows.fnExactTokenOkSpec.pre enc Tryd.prog Tryd.f5 [] false w args ∧ laidMetH Tryd.prog Rows.fnExactTokenOkRow.laid w) ∧ sizedMet enc Tryd.prog Tryd.f5 (OpenSpec.ofChange Rows.fnExactTokenOkSpec) false w args)
      (Rows.fnExactTokenOkSpec.post enc Tryd.prog Tryd.f5 false true false false) := by
  refine returnsInHanded_of_change_and (C := Tryd.checked) (X := fun w _ => laidMetH Tryd.prog Rows.fnExactTokenOkRow.laid w) (fun _ _ _ hh h => h.of_heap hh) own started (by kernel_rfl) Tryd.func5
    (ChangeSpec.witness_shaped (enc := enc) (C := Tryd.checked) (os := os) (X := fun w _ => laidMetH Tryd.prog Rows.fnExactTokenOkRow.laid w) false (World.laidAll Tryd.prog os Rows.fnExactTokenOkRow.laid) #[.agg #[.int .i64 0, .int .i64 0, .string ByteArray.empty]] 8 (World.laidAll_os _ _ _)
      (World.shaped_of_ZipB (by kernel_rfl) (by kernel_rfl)) (by kernel_rfl) (by kernel_rfl) (by kernel_rfl)
      (by rw [MakeChecks.laidMetH_plain _ _ _ (by kernel_rfl)]; exact laidMet_laidAll _ (by kernel_rfl) (by kernel_rfl))) ?_
  intro W base args ds gs before hval0 hW _ _ hL _
  have hval : ∀ (j : Nat) t v, Tryd.f5.params[j]? = some t → args[j]? = some v → Value.okWide Tryd.prog W .any base t v := hval0
  have hW' := hW
  obtain ⟨p, q, hA0, hV, rfl, hfz, hnd⟩ := hW
  have hA : DataW.TrodAll enc Tryd.prog W 0 (fun _ => true) true Tryd.f5.params.toList args.toList ds p := hA0
  rw [Tryd.params5] at hA hval
  obtain ⟨v0, vs0, d0, ds0, p0, q0, hargs, rfl, rfl, h0, r0⟩ := trodAll_cons hA
  obtain ⟨rfl, rfl, rfl⟩ := trodAll_nil r0
  obtain rfl : args = #[v0] := by cases args; simp_all
  have kV := hV
  obtain ⟨gv, tv, cv, fv, dv, pv, gu, tu, cu, fu, du, pu, rfl, _⟩ := trodVars_two hV
  have k0 := h0
  have lt0 : ∀ x ∈ p0, x.block < W.heap.size := by obtain ⟨m, hm⟩ := k0; exact DataW.trod_lt m _ _ _ hm
  obtain ⟨o0, rfl, b0⟩ := open_tk (hval 0 37 v0 rfl rfl) h0
  clear hA0 hval0
  refine (walk o0 b0 W  (tab_of_laid hL)).mono fun e W' ⟨he, bel⟩ => ?_
  subst he
  exact ⟨_, rfl, _, _, _, [], _, _, hW', trodAll_mk1 (shut_bool Tryd.underlying4 _), (trodAll_cons_mk (Below.trod laidOut (by kernel_rfl) (of_decide_eq_true (by kernel_rfl)) k0 bel lt0) trodAll_mk0), bel.trodVars laidOut (by kernel_rfl) kV, bel.frame _, fun h => by cases h⟩

theorem proved : Rows.FnExactTokenOkSaid :=
  OpenClaim.holds_of_wide 5 Tryd.f5 rfl rfl rfl rfl rfl rfl rfl ⟨rfl, rfl, rfl, rfl, rfl⟩ rfl rfl rfl rfl rfl (by kernel_rfl) Tryd.func5 (by kernel_rfl)
    (of_decide_eq_true (by kernel_rfl)) (by unfold Func.isWrapper; first | (rw [if_pos (by decide +kernel)]; kernel_rfl) | (rw [if_neg (by decide +kernel)]; exact ⟨rfl, rfl⟩))
    (fun os started H enc _ => lifted os started H enc)
end Go.Proofs.YtmodomedkidlfaaDoor.fnExactTokenOk

namespace Go.Proofs.YtmodomedkidlfaaDoor
theorem fnExactTokenOk_holds : Rows.FnExactTokenOkCardSaid :=
  Claim7.holds_tied_plain_at .later [] [.data, .data] true (true, "66c4d2696705622268f6c550c1cac78710c0bc553678f323a62a51adbbc97dd5") true
    fnExactTokenOk.proved (fun _ h => by cases h) (by kernel_rfl) (fun _ h => by cases h) fnExactTokenOk_row_tie rfl ⟨rfl, rfl⟩ (by kernel_rfl) rfl
    (fun f fn hf hfn => by
      obtain rfl : f = 5 := Option.some.inj ((show Tryd.prog.funcNamed "loop.example/g00329/laws.FnExactTokenOk" = some 5 by kernel_rfl).symm.trans hf) |>.symm
      obtain rfl : fn = Tryd.f5 := (Option.some.inj (Tryd.func5.symm.trans hfn)).symm
      exact ⟨by kernel_rfl, fun j t ht => by
        rw [Tryd.params5] at ht
        have hm : t ∈ [37] := by simpa using Array.mem_of_getElem? ht
        have hall : ([37].all fun u => !Tryd.prog.wantsStandIn u) = true := by kernel_rfl
        exact (show Tryd.prog.wantsStandIn t = false by simpa using List.all_eq_true.1 hall t hm)⟩)
    (by kernel_rfl)
#print axioms fnExactTokenOk_holds
end Go.Proofs.YtmodomedkidlfaaDoor
