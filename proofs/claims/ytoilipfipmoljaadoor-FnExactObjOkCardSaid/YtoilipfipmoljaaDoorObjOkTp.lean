/- For every module the program's ObjOk answers as the model's and writes into no argument: the law FnExactObjOk returns true at every argument (where the module holds more than 1048576 letters, words and parts together it answers true with no call of the program); the two tables of words that the card lists are as the program's text lays them. -/
import Derived.Test.YtoilipfipmoljaaDoorRows
import Derived.Test.YtoilipfipmoljaaDoorTpA
import Derived.Test.YtoilipfipmoljaaDoorTpB
import Derived.Test.YtoilipfipmoljaaDoorTpC
import Derived.Test.YtoilipfipmoljaaDoorTie
import Derived.Test.YtoilipfipmoljaaDoorCards
import Derived.SevenTiedAt
import Derived.Lay
import Derived.MakeChecks
import Derived.OpenVars
import Derived.WalkKit
import Derived.ProofKit
import Derived.OpenShut
import Derived.ShutString
import Derived.ChangeOld
import Derived.Below

namespace Go.Proofs.YtoilipfipmoljaaDoor.fnExactObjOk
open Go.ChangeShapes Go.WideShapes Go.ChangeAt Go.RowKit
open Go.ChangeMaps (open_string shut_string)
set_option linter.unusedVariables false
set_option maxRecDepth 8000

set_option maxHeartbeats 8000000 in
theorem walk (x : Ob) (qx : Po) (w : World) (hrx : KOb.rd w 0 x qx) (hfx : x.fit) (ht : TabK w) : Calls Tryd.prog 3 #[.agg (KOb.cs x qx).toArray] w fun r w' => r = .returned (.bool true) ∧ Below w.heap.size w w' := by
  obtain ⟨⟨xpa, xpac⟩, ⟨xpb, xpbc⟩⟩ := qx
  show Calls Tryd.prog 3 #[.agg #[.slice xpa x.ss.length xpac, .slice xpb x.gs.length xpbc]] w _
  have TB := hide (fun (wr : World) (h : Below w.heap.size w wr) => ht.next h)
  clear ht
  have SZx := hide (fun (left : Int) (wr : World) (h : Below w.heap.size w wr) (h0 : 0 ≤ left) (h1 : left ≤ 1048576) => (show Calls Tryd.prog 4 #[.agg #[.slice xpa x.ss.length xpac, .slice xpb x.gs.length xpbc], .int .i64 left] wr _ from szOb_any x ⟨⟨xpa, xpac⟩, ⟨xpb, xpbc⟩⟩ left wr (Kd.later KOb hrx h) hfx h0 h1))
  have TOx := hide (fun (hz : x.zz ≤ 1048576) (wr : World) (h : Below w.heap.size w wr) => (show Calls Tryd.prog 6 #[.agg #[.slice xpa x.ss.length xpac, .slice xpb x.gs.length xpbc]] wr (fun r w' => ∃ a ac b bc, r = .returned (.agg #[.slice a x.ss.length ac, .slice b x.gs.length bc]) ∧ KOb.rd w' 0 x ⟨⟨a, ac⟩, ⟨b, bc⟩⟩ ∧ Below wr.heap.size wr w') from (toOb_any x ⟨⟨xpa, xpac⟩, ⟨xpb, xpbc⟩⟩ wr (Kd.later KOb hrx h) (Ob.small_of hz)).mono (by rintro r w' ⟨⟨⟨a, ac⟩, ⟨b, bc⟩⟩, rfl, h1, h2⟩; exact ⟨a, ac, b, bc, rfl, KOb.lower _ _ (Nat.zero_le _) h1.rd, h2⟩)))
  have EQx := hide (fun (hz : x.zz ≤ 1048576) (a b c d : Option Addr) (ac bc cc dc : Nat) (wr : World) (h1 : KOb.rd wr 0 x ⟨⟨a, ac⟩, ⟨b, bc⟩⟩) (h2 : KOb.rd wr 0 x ⟨⟨c, cc⟩, ⟨d, dc⟩⟩) => (show Calls Tryd.prog 8 #[.agg #[.slice a x.ss.length ac, .slice b x.gs.length bc], .agg #[.slice c x.ss.length cc, .slice d x.gs.length dc]] wr _ from eqOb_same x ⟨⟨a, ac⟩, ⟨b, bc⟩⟩ ⟨⟨c, cc⟩, ⟨d, dc⟩⟩ wr h1 h2 (Ob.small_of hz)))
  clear hrx hfx
  have B := hide (below_new w (.cells #[.slice xpa x.ss.length xpac, .slice xpb x.gs.length xpbc] 25))
  have R0 := hide (heap_alloc_new w (.cells #[.slice xpa x.ss.length xpac, .slice xpb x.gs.length xpbc] 25))
  go_enter Tryd.func3, Tryd.ntmps3
  have X := hide (uh SZx 1048576 (w.alloc (.cells #[.slice xpa x.ss.length xpac, .slice xpb x.gs.length xpbc] 25)) (uh B) (by omega) (by omega))
  generalize hzx : x.zz = zx at *
  by_cases hneg : 1048576 - (zx : Int) < 0
  · rw [lessX_neg hneg] at X
    go_wp2_with fail
    refine (uh X).mono ?_
    rintro r w1 ⟨rfl, hb⟩
    have B2 := hide ((uh B).trans (hb.mono (uh B).size))
    clear hb X
    go_wp2
    go_ret
    exact ⟨rfl, uh B2⟩
  rw [lessX_pos hneg] at X
  go_wp2_with fail
  refine (uh X).mono ?_
  rintro r w2 ⟨rfl, hb⟩
  replace R0 := hide ((hb.block w.heap.size (Array.getElem?_eq_some_iff.1 (uh R0)).1).trans (uh R0))
  replace B := hide ((uh B).trans (hb.mono (uh B).size))
  clear hb X SZx
  replace TOx := hide (uh TOx (by omega))
  replace EQx := hide (uh EQx (by omega))
  have hlex : zx ≤ 1048576 := by omega
  have z0 := Lib.cell_of_heap (uh R0) 0
  have z1 := Lib.cell_of_heap (uh R0) 1
  have X := hide (uh TOx w2 (uh B))
  go_wp2_with fail
  refine (uh X).mono ?_
  rintro r w3 ⟨sxa, sxac, sxb, sxbc, rfl, hrd, hb⟩
  have HRD := hide hrd
  clear hrd
  clear z0 z1
  replace R0 := hide ((hb.block w.heap.size (Array.getElem?_eq_some_iff.1 (uh R0)).1).trans (uh R0))
  replace B := hide ((uh B).trans (hb.mono (uh B).size))
  clear hb X
  have sxR := HRD
  clear HRD
  have X := hide (show Calls Tryd.prog 5 #[.agg #[.slice sxa x.ss.length sxac, .slice sxb x.gs.length sxbc]] w3 _ from objS x ⟨⟨sxa, sxac⟩, ⟨sxb, sxbc⟩⟩ w3 (uh sxR) (by rw [hzx]; exact hlex))
  go_wp2_with fail
  refine (uh X).mono ?_
  rintro r w4 ⟨rfl, hb⟩
  replace R0 := hide ((hb.block w.heap.size (Array.getElem?_eq_some_iff.1 (uh R0)).1).trans (uh R0))
  replace B := hide ((uh B).trans (hb.mono (uh B).size))
  clear hb X sxR
  have z0 := Lib.cell_of_heap (uh R0) 0
  have z1 := Lib.cell_of_heap (uh R0) 1
  have X := hide (uh TOx w4 (uh B))
  go_wp2_with fail
  refine (uh X).mono ?_
  rintro r w5 ⟨xxa, xxac, xxb, xxbc, rfl, hrd, hb⟩
  have HRD := hide hrd
  clear hrd
  clear z0 z1
  replace R0 := hide ((hb.block w.heap.size (Array.getElem?_eq_some_iff.1 (uh R0)).1).trans (uh R0))
  replace B := hide ((uh B).trans (hb.mono (uh B).size))
  clear hb X
  have xxR := HRD
  clear HRD
  have BXx := hide (heap_alloc_new w5 (.cells #[.slice xxa x.ss.length xxac, .slice xxb x.gs.length xxbc] 31))
  have hb := below_new w5 (.cells #[.slice xxa x.ss.length xxac, .slice xxb x.gs.length xxbc] 31)
  replace R0 := hide ((hb.block w.heap.size (Array.getElem?_eq_some_iff.1 (uh R0)).1).trans (uh R0))
  replace xxR := hide (Kd.later KOb (uh xxR) hb)
  replace B := hide ((uh B).trans (hb.mono (uh B).size))
  clear hb
  have X := hide (show Calls Tryd.prog 7 #[.agg #[.slice xxa x.ss.length xxac, .slice xxb x.gs.length xxbc]] (w5.alloc (.cells #[.slice xxa x.ss.length xxac, .slice xxb x.gs.length xxbc] 31)) _ from objI x ⟨⟨xxa, xxac⟩, ⟨xxb, xxbc⟩⟩ (w5.alloc (.cells #[.slice xxa x.ss.length xxac, .slice xxb x.gs.length xxbc] 31)) (uh xxR) (by rw [hzx]; exact hlex) (uh TB (w5.alloc (.cells #[.slice xxa x.ss.length xxac, .slice xxb x.gs.length xxbc] 31)) (uh B)))
  go_wp2_with fail
  refine (uh X).mono ?_
  rintro r w6 ⟨rfl, hb⟩
  replace BXx := hide ((hb.block _ (Array.getElem?_eq_some_iff.1 (uh BXx)).1).trans (uh BXx))
  replace R0 := hide ((hb.block w.heap.size (Array.getElem?_eq_some_iff.1 (uh R0)).1).trans (uh R0))
  replace xxR := hide (Kd.later KOb (uh xxR) hb)
  replace B := hide ((uh B).trans (hb.mono (uh B).size))
  clear hb X
  go_wp2_with fail
  have hb := below_drew (w := w6)
  replace BXx := hide ((hb.block _ (Array.getElem?_eq_some_iff.1 (uh BXx)).1).trans (uh BXx))
  replace R0 := hide ((hb.block w.heap.size (Array.getElem?_eq_some_iff.1 (uh R0)).1).trans (uh R0))
  replace xxR := hide (Kd.later KOb (uh xxR) hb)
  replace B := hide ((uh B).trans (hb.mono (uh B).size))
  have D0 := hide (show (fun w' => w'.heap[w5.heap.size]? = some (.cells #[.slice xxa x.ss.length xxac, .slice xxb x.gs.length xxbc] 31 (0, 0)) ∧ w'.heap[w.heap.size]? = some (.cells #[.slice xpa x.ss.length xpac, .slice xpb x.gs.length xpbc] 25 (0, 0))) w6.drew from ⟨uh BXx, uh R0⟩)
  have X := hide (uh TOx w6.drew (uh B))
  clear hb
  refine wp_region_held_drew (S := fun w' => w'.heap[w5.heap.size]? = some (.cells #[.slice xxa x.ss.length xxac, .slice xxb x.gs.length xxbc] 31 (0, 0)) ∧ w'.heap[w.heap.size]? = some (.cells #[.slice xpa x.ss.length xpac, .slice xpb x.gs.length xpbc] 25 (0, 0))) (by kernel_rfl) (uh D0) (fun hS => ?_)
  have HS := hide hS
  clear hS
  generalize w6.drew = w7 at *
  refine tkA 0 (.agg #[.slice xxa x.ss.length xxac, .slice xxb x.gs.length xxbc]) rfl (yields_loadG (by rfl) 31 _ rfl w5.heap.size rfl 31 #[.slice xxa x.ss.length xxac, .slice xxb x.gs.length xxbc] _ (fun w h => h.1) Tryd.underlying31 rfl (by kernel_rfl)) (uh HS) ?_
  go_simp
  refine tkA 1 (.agg #[.slice xpa x.ss.length xpac, .slice xpb x.gs.length xpbc]) rfl (yields_loadG (by rfl) 25 _ rfl (w.heap.size) rfl 25 #[.slice xpa x.ss.length xpac, .slice xpb x.gs.length xpbc] _ (fun w h => h.2) Tryd.underlying25 rfl (by kernel_rfl)) (uh HS) ?_
  go_simp
  refine wpAnyH_ready (rs := [2]) (by kernel_rfl) (by simp) ?_
  refine AllReadyH.cons rfl (fun K2 hK => ?_) AllReadyH.nil
  go_simp
  refine (uh X).mono ?_
  rintro r w8 ⟨ya, yac, yb, ybc, rfl, hrd, hb⟩
  have HRD := hide hrd
  clear hrd X
  replace BXx := hide ((hb.block _ (Array.getElem?_eq_some_iff.1 (uh BXx)).1).trans (uh BXx))
  replace R0 := hide ((hb.block w.heap.size (Array.getElem?_eq_some_iff.1 (uh R0)).1).trans (uh R0))
  replace xxR := hide (Kd.later KOb (uh xxR) hb)
  replace B := hide ((uh B).trans (hb.mono (uh B).size))
  refine hK.out _ _ (⟨uh BXx, uh R0⟩) (fun hS => ?_)
  clear HS
  have HS := hide hS
  clear hS hK K2
  have X2 := hide (uh EQx xxa xxb ya yb xxac xxbc yac ybc w8 (uh xxR) (uh HRD))
  clear HRD hb
  refine wpAnyH_ready (rs := [3]) (by kernel_rfl) (by simp) ?_
  refine AllReadyH.cons rfl (fun K2 hK => ?_) AllReadyH.nil
  go_simp
  refine (uh X2).mono ?_
  rintro r w9 ⟨rfl, hb⟩
  clear X2
  replace BXx := hide ((hb.block _ (Array.getElem?_eq_some_iff.1 (uh BXx)).1).trans (uh BXx))
  replace R0 := hide ((hb.block w.heap.size (Array.getElem?_eq_some_iff.1 (uh R0)).1).trans (uh R0))
  replace xxR := hide (Kd.later KOb (uh xxR) hb)
  replace B := hide ((uh B).trans (hb.mono (uh B).size))
  refine hK.out _ _ (⟨uh BXx, uh R0⟩) (fun hS => ?_)
  clear HS
  have HS := hide hS
  clear hS hK K2
  clear hb
  refine tkB 4 (.bool false) rfl (uh HS) ?_
  go_simp
  refine wpAnyH_done (by kernel_rfl) ?_ _
  clear HS D0
  go_wp2
  go_ret
  exact ⟨rfl, uh B⟩

set_option maxRecDepth 100000 in
theorem lifted (os : Os) (started : os.Started) (H : Type) (enc : TypeId × Value → H) :
    ReturnsInHanded {} Tryd.checked os 3 .any (fun w args => (Rows.fnExactObjOkSpec.pre enc Tryd.prog Tryd.f3 [] false w args ∧ laidMetH Tryd.prog Rows.fnExactObjOkRow.laid w) ∧ sizedMet enc Tryd.prog Tryd.f3 (OpenSpec.ofChange Rows.fnExactObjOkSpec) false w args)
      (Rows.fnExactObjOkSpec.post enc Tryd.prog Tryd.f3 false true false false) := by
  refine returnsInHanded_of_change_and (C := Tryd.checked) (X := fun w _ => laidMetH Tryd.prog Rows.fnExactObjOkRow.laid w) (fun _ _ _ hh h => h.of_heap hh) own started (by kernel_rfl) Tryd.func3
    (ChangeSpec.witness_shaped (enc := enc) (C := Tryd.checked) (os := os) (X := fun w _ => laidMetH Tryd.prog Rows.fnExactObjOkRow.laid w) false (World.laidAll Tryd.prog os Rows.fnExactObjOkRow.laid) #[.agg #[.slice none 0 0, .slice none 0 0]] 8 (World.laidAll_os _ _ _)
      (World.shaped_of_ZipB (by kernel_rfl) (by kernel_rfl)) (by kernel_rfl) (by kernel_rfl) (by kernel_rfl)
      (by rw [MakeChecks.laidMetH_plain _ _ _ (by kernel_rfl)]; exact laidMet_laidAll _ (by kernel_rfl) (by kernel_rfl))) ?_
  intro W base args ds gs before hval0 hW _ _ hL _
  have hval : ∀ (j : Nat) t v, Tryd.f3.params[j]? = some t → args[j]? = some v → Value.okWide Tryd.prog W .any base t v := hval0
  have hW' := hW
  obtain ⟨p, q, hA0, hV, rfl, hfz, hnd⟩ := hW
  have hA : DataW.TrodAll enc Tryd.prog W 0 (fun _ => true) true Tryd.f3.params.toList args.toList ds p := hA0
  rw [Tryd.params3] at hA hval
  obtain ⟨v0, vs0, d0, ds0, p0, q0, hargs, rfl, rfl, h0, r0⟩ := trodAll_cons hA
  obtain ⟨rfl, rfl, rfl⟩ := trodAll_nil r0
  obtain rfl : args = #[v0] := by cases args; simp_all
  have kV := hV
  obtain ⟨gv, tv, cv, fv, dv, pv, gu, tu, cu, fu, du, pu, rfl, _⟩ := trodVars_two hV
  have k0 := h0
  have lt0 : ∀ x ∈ p0, x.block < W.heap.size := by obtain ⟨m, hm⟩ := k0; exact DataW.trod_lt m _ _ _ hm
  obtain ⟨o0, b0, rfl, g0, f0⟩ := open_ob (hval 0 25 v0 rfl rfl) h0
  clear hA0 hval0
  refine (walk o0 b0 W g0 f0 (tab_of_laid hL)).mono fun e W' ⟨he, bel⟩ => ?_
  subst he
  exact ⟨_, rfl, _, _, _, [], _, _, hW', trodAll_mk1 (shut_bool Tryd.underlying4 _), (trodAll_cons_mk (Below.trod laidOut (by kernel_rfl) (of_decide_eq_true (by kernel_rfl)) k0 bel lt0) trodAll_mk0), bel.trodVars laidOut (by kernel_rfl) kV, bel.frame _, fun h => by cases h⟩

theorem proved : Rows.FnExactObjOkSaid :=
  OpenClaim.holds_of_wide 3 Tryd.f3 rfl rfl rfl rfl rfl rfl rfl ⟨rfl, rfl, rfl, rfl, rfl⟩ rfl rfl rfl rfl rfl (by kernel_rfl) Tryd.func3 (by kernel_rfl)
    (of_decide_eq_true (by kernel_rfl)) (by unfold Func.isWrapper; first | (rw [if_pos (by decide +kernel)]; kernel_rfl) | (rw [if_neg (by decide +kernel)]; exact ⟨rfl, rfl⟩))
    (fun os started H enc _ => lifted os started H enc)
end Go.Proofs.YtoilipfipmoljaaDoor.fnExactObjOk

namespace Go.Proofs.YtoilipfipmoljaaDoor
theorem fnExactObjOk_holds : Rows.FnExactObjOkCardSaid :=
  Claim7.holds_tied_plain_at .later [] [.data, .data] true (true, "d947b881a93975624079d8befcbae0c6056d3c2a1eb3c33bf1169791102e3b98") true
    fnExactObjOk.proved (fun _ h => by cases h) (by kernel_rfl) (fun _ h => by cases h) fnExactObjOk_row_tie rfl ⟨rfl, rfl⟩ (by kernel_rfl) rfl
    (fun f fn hf hfn => by
      obtain rfl : f = 3 := Option.some.inj ((show Tryd.prog.funcNamed "loop.example/g00329/laws.FnExactObjOk" = some 3 by kernel_rfl).symm.trans hf) |>.symm
      obtain rfl : fn = Tryd.f3 := (Option.some.inj (Tryd.func3.symm.trans hfn)).symm
      exact ⟨by kernel_rfl, fun j t ht => by
        rw [Tryd.params3] at ht
        have hm : t ∈ [25] := by simpa using Array.mem_of_getElem? ht
        have hall : ([25].all fun u => !Tryd.prog.wantsStandIn u) = true := by kernel_rfl
        exact (show Tryd.prog.wantsStandIn t = false by simpa using List.all_eq_true.1 hall t hm)⟩)
    (by kernel_rfl)
#print axioms fnExactObjOk_holds
end Go.Proofs.YtoilipfipmoljaaDoor
