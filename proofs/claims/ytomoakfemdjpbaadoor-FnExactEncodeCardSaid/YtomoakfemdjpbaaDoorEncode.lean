/- For every instruction, whatever its numbers, the program's Encode answers as the model's, its answer owns its memory, behind another call too: the law FnExactEncode returns true at every argument; the table that the card lists is as the program's text lays it. -/
import Derived.Test.YtomoakfemdjpbaaDoorRows
import Derived.Test.YtomoakfemdjpbaaDoorLaid
import Derived.Test.YtomoakfemdjpbaaDoorEncE
import Derived.Test.YtomoakfemdjpbaaDoorMarks
import Derived.Test.YtomoakfemdjpbaaDoorOpen
import Derived.Test.YtomoakfemdjpbaaDoorTie
import Derived.Test.YtomoakfemdjpbaaDoorCards
import Derived.SevenTiedAt
import Derived.Lay
import Derived.MakeChecks
import Derived.OpenVars
import Derived.WalkKit
import Derived.ProofKit
import Derived.OpenShut
import Derived.ShutString
import Derived.ChangeOld
import Derived.Below
namespace Go.Proofs.YtomoakfemdjpbaaDoor.fnExactEncode
open Go.ChangeShapes Go.WideShapes Go.ChangeAt Go.RowKit
open Go.ChangeMaps (open_string shut_string)
set_option linter.unusedVariables false

theorem enc_len (i : Is) : i.enc.length ≤ 3 := by
  unfold Is.enc Is.xs
  split
  · simp only [List.length_cons, List.length_append]
    split <;> split <;> simp
  · simp
set_option maxHeartbeats 4000000 in
theorem walk (i : Is) (b : Bd64 i.op ∧ (Bd64 i.s.m ∧ Bd64 i.s.r ∧ Bd64 i.s.x) ∧ (Bd64 i.d.m ∧ Bd64 i.d.r ∧ Bd64 i.d.x) ∧ Bd64 i.n) (w : World) (ht : Tab w) : Calls Tryd.prog 5 #[i.v] w fun e w' => e = .returned (.bool true) ∧ Below w.heap.size w w' := by
  clear b
  have hlen := enc_len i
  have HT := hide (fun w => toIns_any i w)
  have H1 := hide (fun w => encS_any i w)
  have H2 := hide (fun w (h : Tab w) => encI_any i w h)
  obtain ⟨op, ⟨sm, sr, sx⟩, ⟨dm, dr, dx⟩, n⟩ := i
  have HS := hide (box_below w (Obj.cells #[.int .i64 op, .int .i64 sm, .int .i64 sr, .int .i64 sx, .int .i64 dm, .int .i64 dr, .int .i64 dx, .int .i64 n] 42))
  have HE := hide (show (w.alloc (Obj.cells #[.int .i64 op, .int .i64 sm, .int .i64 sr, .int .i64 sx, .int .i64 dm, .int .i64 dr, .int .i64 dx, .int .i64 n] 42)).heap.size = w.heap.size + 1 by simp)
  have HZ := hide (show w.heap.size + 1 ≤ (w.alloc (Obj.cells #[.int .i64 op, .int .i64 sm, .int .i64 sr, .int .i64 sx, .int .i64 dm, .int .i64 dr, .int .i64 dx, .int .i64 n] 42)).heap.size by simp)
  have TB := hide (fun (y : Sub (w.heap.size + 1) (w.alloc (Obj.cells #[.int .i64 op, .int .i64 sm, .int .i64 sr, .int .i64 sx, .int .i64 dm, .int .i64 dr, .int .i64 dx, .int .i64 n] 42))) => ht.later (box_below w _ y.w y.h))
  have SZ := hide (fun (y : Sub (w.heap.size + 1) (w.alloc (Obj.cells #[.int .i64 op, .int .i64 sm, .int .i64 sr, .int .i64 sx, .int .i64 dm, .int .i64 dr, .int .i64 dx, .int .i64 n] 42))) => (show w.heap.size + 1 ≤ y.w.heap.size by have := y.h.size; rw [unhide HE] at this; exact this))
  have GO := hide (fun (y : Sub (w.heap.size + 1) (w.alloc (Obj.cells #[.int .i64 op, .int .i64 sm, .int .i64 sr, .int .i64 sx, .int .i64 dm, .int .i64 dr, .int .i64 dx, .int .i64 n] 42))) (w' : World) (hb : Below y.w.heap.size y.w w') => (⟨⟨w', y.h.trans (hb.mono (unhide SZ y))⟩, rfl⟩ : ∃ z : Sub (w.heap.size + 1) (w.alloc (Obj.cells #[.int .i64 op, .int .i64 sm, .int .i64 sr, .int .i64 sx, .int .i64 dm, .int .i64 dr, .int .i64 dx, .int .i64 n] 42)), w' = z.w))
  have GG := hide (fun (y : Sub (w.heap.size + 1) (w.alloc (Obj.cells #[.int .i64 op, .int .i64 sm, .int .i64 sr, .int .i64 sx, .int .i64 dm, .int .i64 dr, .int .i64 dx, .int .i64 n] 42))) (w' : World) (r : Option Nat) (hg : y.w.grownBy w' r) (hr : ∀ k, r = some k → w.heap.size + 1 ≤ k) => (⟨⟨w', y.h.grown hg (unhide SZ y) hr⟩, rfl⟩ : ∃ z : Sub (w.heap.size + 1) (w.alloc (Obj.cells #[.int .i64 op, .int .i64 sm, .int .i64 sr, .int .i64 sx, .int .i64 dm, .int .i64 dr, .int .i64 dx, .int .i64 n] 42)), w' = z.w))
  have c0 : ∀ y : Sub (w.heap.size + 1) (w.alloc (Obj.cells #[.int .i64 op, .int .i64 sm, .int .i64 sr, .int .i64 sx, .int .i64 dm, .int .i64 dr, .int .i64 dx, .int .i64 n] 42)), y.w.cell? ⟨w.heap.size, 0, none⟩ = some (.int .i64 op) := fun y => y.cells 0 _ rfl
  have c1 : ∀ y : Sub (w.heap.size + 1) (w.alloc (Obj.cells #[.int .i64 op, .int .i64 sm, .int .i64 sr, .int .i64 sx, .int .i64 dm, .int .i64 dr, .int .i64 dx, .int .i64 n] 42)), y.w.cell? ⟨w.heap.size, 1, none⟩ = some (.int .i64 sm) := fun y => y.cells 1 _ rfl
  have c2 : ∀ y : Sub (w.heap.size + 1) (w.alloc (Obj.cells #[.int .i64 op, .int .i64 sm, .int .i64 sr, .int .i64 sx, .int .i64 dm, .int .i64 dr, .int .i64 dx, .int .i64 n] 42)), y.w.cell? ⟨w.heap.size, 2, none⟩ = some (.int .i64 sr) := fun y => y.cells 2 _ rfl
  have c3 : ∀ y : Sub (w.heap.size + 1) (w.alloc (Obj.cells #[.int .i64 op, .int .i64 sm, .int .i64 sr, .int .i64 sx, .int .i64 dm, .int .i64 dr, .int .i64 dx, .int .i64 n] 42)), y.w.cell? ⟨w.heap.size, 3, none⟩ = some (.int .i64 sx) := fun y => y.cells 3 _ rfl
  have c4 : ∀ y : Sub (w.heap.size + 1) (w.alloc (Obj.cells #[.int .i64 op, .int .i64 sm, .int .i64 sr, .int .i64 sx, .int .i64 dm, .int .i64 dr, .int .i64 dx, .int .i64 n] 42)), y.w.cell? ⟨w.heap.size, 4, none⟩ = some (.int .i64 dm) := fun y => y.cells 4 _ rfl
  have c5 : ∀ y : Sub (w.heap.size + 1) (w.alloc (Obj.cells #[.int .i64 op, .int .i64 sm, .int .i64 sr, .int .i64 sx, .int .i64 dm, .int .i64 dr, .int .i64 dx, .int .i64 n] 42)), y.w.cell? ⟨w.heap.size, 5, none⟩ = some (.int .i64 dr) := fun y => y.cells 5 _ rfl
  have c6 : ∀ y : Sub (w.heap.size + 1) (w.alloc (Obj.cells #[.int .i64 op, .int .i64 sm, .int .i64 sr, .int .i64 sx, .int .i64 dm, .int .i64 dr, .int .i64 dx, .int .i64 n] 42)), y.w.cell? ⟨w.heap.size, 6, none⟩ = some (.int .i64 dx) := fun y => y.cells 6 _ rfl
  have c7 : ∀ y : Sub (w.heap.size + 1) (w.alloc (Obj.cells #[.int .i64 op, .int .i64 sm, .int .i64 sr, .int .i64 sx, .int .i64 dm, .int .i64 dr, .int .i64 dx, .int .i64 n] 42)), y.w.cell? ⟨w.heap.size, 7, none⟩ = some (.int .i64 n) := fun y => y.cells 7 _ rfl
  generalize Is.enc ⟨op, ⟨sm, sr, sx⟩, ⟨dm, dr, dx⟩, n⟩ = ns at H1 H2 hlen
  unfold Is.v at *
  simp only at *
  clear ht
  go_enter Tryd.func5, Tryd.ntmps5
  go_wp2_with fail
  refine (Sub.call (x := Sub.top w (Obj.cells #[.int .i64 op, .int .i64 sm, .int .i64 sr, .int .i64 sx, .int .i64 dm, .int .i64 dr, .int .i64 dx, .int .i64 n] 42)) (unhide HZ) (unhide HT _)).mono ?_
  rintro e _ ⟨rfl, y0, rfl⟩
  go_wp2_with fail
  refine (unhide H1 _).mono ?_
  rintro e w1 ⟨v0, rfl, _, own1, hb1⟩
  have O1 := hide (own1.base (unhide SZ y0))
  have L1 := hide (show ∀ g, v0.ownBlock = some g → g < w1.heap.size from fun g hg => (own1.lt hg).2)
  obtain ⟨y1, rfl⟩ := unhide GO y0 w1 hb1
  clear own1 hb1
  go_wp2_with fail
  refine (unhide HT _).mono ?_
  rintro e w2 ⟨rfl, hb2⟩
  have O2 := hide ((unhide O1).later hb2)
  have s2 := hb2.size
  have L2 := hide (show ∀ g, v0.ownBlock = some g → g < w2.heap.size from fun g hg => Nat.lt_of_lt_of_le (unhide L1 g hg) s2)
  obtain ⟨y2, rfl⟩ := unhide GO y1 w2 hb2
  clear hb2 O1 L1 s2
  go_wp2_with fail
  refine (unhide H2 _ (unhide TB y2)).mono ?_
  rintro e w3 ⟨v1, rfl, _, own3, hb3⟩
  have O3 := hide ((unhide O2).later hb3)
  have G3 := hide own3
  have E3 := hide (eqIntS_own v1 v0 _ _ _ w3 (by omega) own3 (unhide O3))
  have hz2 := unhide SZ y2
  obtain ⟨y3, rfl⟩ := unhide GO y2 w3 hb3
  clear own3 hb3 O2
  go_wp2_with fail
  refine (unhide E3).mono ?_
  rintro e w4 ⟨rfl, hb4⟩
  have O4 := hide ((unhide O3).later hb4)
  have G4 := hide ((unhide G3).later hb4)
  have M4 := hide (markS_own v1 ns _ w4 (by omega) ((unhide G3).later hb4))
  obtain ⟨y4, rfl⟩ := unhide GO y3 w4 hb4
  clear hb4 O3 G3 E3
  go_wp2_with fail
  refine (unhide M4).mono ?_
  rintro e w5 ⟨rfl, own5, hg5⟩
  have O5 := hide ((unhide O4).apart (unhide G4) hg5 (unhide L2))
  have G5 := hide own5
  have Q5 := hide (heldS_own v1 ns.length _ w5 (by omega) own5)
  obtain ⟨y5, rfl⟩ := unhide GG y4 w5 _ hg5 (fun k h => by have := ((unhide G4).lt h).1; omega)
  clear own5 hg5 O4 G4 M4 L2
  have hlt1 : ¬ (1 : Int) + (ns.length : Int) < 0 := by omega
  go_wp2_with fail
  refine (unhide Q5).mono ?_
  rintro e w' ⟨rfl, hw'⟩
  rw [hw']
  clear hw' w' Q5
  go_wp2_with fail
  refine (unhide HT _).mono ?_
  rintro e w6 ⟨rfl, hb6⟩
  have O6 := hide ((unhide O5).later hb6)
  have G6 := hide ((unhide G5).later hb6)
  obtain ⟨y6, rfl⟩ := unhide GO y5 w6 hb6
  clear hb6 O5 G5
  go_wp2_with fail
  refine (unhide H2 _ (unhide TB y6)).mono ?_
  rintro e w7 ⟨v7, rfl, _, own7, hb7⟩
  have G7 := hide ((unhide G6).later hb7)
  have E7 := hide (eqIntS_own v7 v0 _ _ _ w7 (by omega) own7 ((unhide O6).later hb7))
  obtain ⟨y7, rfl⟩ := unhide GO y6 w7 hb7
  clear own7 hb7 O6 G6
  go_wp2_with fail
  refine (unhide E7).mono ?_
  rintro e w8 ⟨rfl, hb8⟩
  have Q8 := hide (heldS_own v1 ns.length _ w8 (by omega) ((unhide G7).later hb8))
  obtain ⟨y8, rfl⟩ := unhide GO y7 w8 hb8
  clear hb8 G7 E7
  go_wp2_with fail
  refine (unhide Q8).mono ?_
  rintro e w' ⟨rfl, hw'⟩
  rw [hw']
  clear hw' w' Q8
  go_wp2
  go_ret
  exact ⟨rfl, unhide HS _ y8.h⟩

set_option maxRecDepth 100000 in
theorem lifted (os : Os) (started : os.Started) (H : Type) (enc : TypeId × Value → H) :
    ReturnsInHanded {} Tryd.checked os 5 .any (fun w args => (Rows.fnExactEncodeSpec.pre enc Tryd.prog Tryd.f5 [] false w args ∧ laidMetH Tryd.prog Rows.fnExactEncodeRow.laid w) ∧ sizedMet enc Tryd.prog Tryd.f5 (OpenSpec.ofChange Rows.fnExactEncodeSpec) false w args)
      (Rows.fnExactEncodeSpec.post enc Tryd.prog Tryd.f5 false true false false) := by
  refine returnsInHanded_of_change_and (C := Tryd.checked) (X := fun w _ => laidMetH Tryd.prog Rows.fnExactEncodeRow.laid w) (fun _ _ _ hh h => h.of_heap hh) own started (by kernel_rfl) Tryd.func5
    (ChangeSpec.witness_shaped (enc := enc) (C := Tryd.checked) (os := os) (X := fun w _ => laidMetH Tryd.prog Rows.fnExactEncodeRow.laid w) false (World.laidAll Tryd.prog os Rows.fnExactEncodeRow.laid) #[.agg #[.int .i64 0, .int .i64 0, .int .i64 0, .int .i64 0, .int .i64 0, .int .i64 0, .int .i64 0, .int .i64 0]] 8 (World.laidAll_os _ _ _)
      (World.shaped_of_ZipB (by kernel_rfl) (by kernel_rfl)) (by kernel_rfl) (by kernel_rfl) (by kernel_rfl)
      (by rw [MakeChecks.laidMetH_plain _ _ _ (by kernel_rfl)]; exact laidMet_laidAll _ (by kernel_rfl) (by kernel_rfl))) ?_
  intro W base args ds gs before hval0 hW _ _ hL _
  have hval : ∀ (j : Nat) t v, Tryd.f5.params[j]? = some t → args[j]? = some v → Value.okWide Tryd.prog W .any base t v := hval0
  have hW' := hW
  obtain ⟨p, q, hA0, hV, rfl, hfz, hnd⟩ := hW
  have hA : DataW.TrodAll enc Tryd.prog W 0 (fun _ => true) true Tryd.f5.params.toList args.toList ds p := hA0
  rw [Tryd.params5] at hA hval
  obtain ⟨v0, vs0, d0, ds0, p0, q0, hargs, rfl, rfl, h0, r0⟩ := trodAll_cons hA
  obtain ⟨rfl, rfl, rfl⟩ := trodAll_nil r0
  obtain rfl : args = #[v0] := by cases args; simp_all
  have kV := hV
  obtain ⟨gv, tv, cv, fv, dv, pv, rfl, _⟩ := trodVars_one hV
  have k0 := h0
  have lt0 : ∀ x ∈ p0, x.block < W.heap.size := by obtain ⟨m, hm⟩ := k0; exact DataW.trod_lt m _ _ _ hm
  obtain ⟨o0, rfl, b0⟩ := open_is (hval 0 42 v0 rfl rfl) h0
  clear hA0 hval0
  refine (walk o0 b0 W (tab_of_laid hL)).mono fun e W' ⟨he, bel⟩ => ?_
  subst he
  exact ⟨_, rfl, _, _, _, [], _, _, hW', trodAll_mk1 (shut_bool Tryd.underlying4 _), (trodAll_cons_mk (Below.trod laidOut (by kernel_rfl) (of_decide_eq_true (by kernel_rfl)) k0 bel lt0) trodAll_mk0), bel.trodVars laidOut (by kernel_rfl) kV, bel.frame _, fun h => by cases h⟩

theorem proved : Rows.FnExactEncodeSaid :=
  OpenClaim.holds_of_wide 5 Tryd.f5 rfl rfl rfl rfl rfl rfl rfl ⟨rfl, rfl, rfl, rfl, rfl⟩ rfl rfl rfl rfl rfl (by kernel_rfl) Tryd.func5 (by kernel_rfl)
    (of_decide_eq_true (by kernel_rfl)) (by unfold Func.isWrapper; first | (rw [if_pos (by decide +kernel)]; kernel_rfl) | (rw [if_neg (by decide +kernel)]; exact ⟨rfl, rfl⟩))
    (fun os started H enc _ => lifted os started H enc)
end Go.Proofs.YtomoakfemdjpbaaDoor.fnExactEncode

namespace Go.Proofs.YtomoakfemdjpbaaDoor
theorem fnExactEncode_holds : Rows.FnExactEncodeCardSaid :=
  Claim7.holds_tied_plain_at .later [] [.data] true (true, "9746663066c250d338f27c0162c702558549db257cec92d0bdd35661a76f4db4") false
    fnExactEncode.proved (fun _ h => by cases h) (by kernel_rfl) (fun _ h => by cases h) fnExactEncode_row_tie rfl ⟨rfl, rfl⟩ (by kernel_rfl) rfl
    (fun f fn hf hfn => by
      obtain rfl : f = 5 := Option.some.inj ((show Tryd.prog.funcNamed "loop.example/g00329/laws.FnExactEncode" = some 5 by kernel_rfl).symm.trans hf) |>.symm
      obtain rfl : fn = Tryd.f5 := (Option.some.inj (Tryd.func5.symm.trans hfn)).symm
      exact ⟨by kernel_rfl, fun j t ht => by
        rw [Tryd.params5] at ht
        have hm : t ∈ [42] := by simpa using Array.mem_of_getElem? ht
        have hall : ([42].all fun u => !Tryd.prog.wantsStandIn u) = true := by kernel_rfl
        exact (show Tryd.prog.wantsStandIn t = false by simpa using List.all_eq_true.1 hall t hm)⟩)
    (by kernel_rfl)
#print axioms fnExactEncode_holds
end Go.Proofs.YtomoakfemdjpbaaDoor
