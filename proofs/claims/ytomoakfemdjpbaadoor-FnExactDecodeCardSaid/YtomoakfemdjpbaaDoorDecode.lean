/- For every list of numbers and every place the program's Decode answers as the model's and writes into no argument: the law FnExactDecode returns true at every argument; the table that the card lists is as the program's text lays it. -/
import Derived.Test.YtomoakfemdjpbaaDoorRows
import Derived.Test.YtomoakfemdjpbaaDoorLaid
import Derived.Test.YtomoakfemdjpbaaDoorDecI
import Derived.Test.YtomoakfemdjpbaaDoorMarks
import Derived.Test.YtomoakfemdjpbaaDoorEqI
import Derived.Test.YtomoakfemdjpbaaDoorTie
import Derived.Test.YtomoakfemdjpbaaDoorCards
import Derived.SevenTiedAt
import Derived.Lay
import Derived.MakeChecks
import Derived.OpenVars
import Derived.WalkKit
import Derived.ProofKit
import Derived.OpenShut
import Derived.ShutString
import Derived.ChangeOld
import Derived.Below
namespace Go.Proofs.YtomoakfemdjpbaaDoor.fnExactDecode
open Go.ChangeShapes Go.WideShapes Go.ChangeAt Go.RowKit
open Go.ChangeMaps (open_string shut_string)
set_option linter.unusedVariables false

set_option maxHeartbeats 4000000 in
theorem walk (a0 : Option Addr) (len0 cap0 : Nat) (z0 : List Int) (at0 : Int) (w1 : (Lit.int .i64 at0).wf = true) (w : World) (w0 : IsRow .i64 w a0 len0 cap0 z0) (ht : Tab w) :
    Calls Tryd.prog 6 #[.slice a0 len0 cap0, .int .i64 at0] w fun e w' => e = .returned (.bool true) ∧ Below w.heap.size w w' := by
  clear w1
  obtain ⟨ns, hl, hlc, hm, hr, hbd⟩ := rdN_of_row w0
  unfold maxLen at hm
  by_cases hbig : 1048576 < len0
  · go_enter Tryd.func6, Tryd.ntmps6
    go_wp2
    go_ret
    exact ⟨rfl, Below.refl _ _⟩
  · have HBD := hide hbd
    have HTB := hide ht
    clear hbd w0 ht
    have QS := hide (fun (v : Value) (B : Nat) (w : World) (h : OwnN w B v ns) => decS_own v ns B at0 w (by omega) h)
    have QI := hide (fun (v : Value) (B : Nat) (w : World) (h : OwnN w B v ns) (t : Tab w) => decI_own v ns B at0 w t (by omega) (unhide HBD) h)
    have EQ := hide (fun w => eqIns_same (decIs ns at0) w)
    unfold decV at QS QI
    generalize decIs ns at0 = I at QS QI EQ
    generalize decN ns at0 = dn at QS QI
    generalize decOk ns at0 = dk at QS QI
    obtain ⟨op, ⟨sm, sr, sx⟩, ⟨dm, dr, dx⟩, n⟩ := I
    unfold Is.v at QS QI EQ
    simp only at QS QI EQ
    go_enter Tryd.func6, Tryd.ntmps6
    go_wp2_with fail
    refine (toIntS_any a0 len0 cap0 ns w hl (by omega) hr).mono ?_
    rintro e w1 ⟨v1, rfl, own1, hb1⟩
    have Q1 := hide (unhide QS v1 _ w1 own1)
    have s1 := hb1.size
    have B1 := hide hb1
    clear own1 hb1 QS
    go_wp2_with fail
    refine (unhide Q1).mono ?_
    rintro e w2 ⟨rfl, hb2⟩
    have s2 := hb2.size
    have B2 := hide ((unhide B1).trans (hb2.mono s1))
    have B3 := hide ((unhide B2).alloc (by omega) (Obj.cells #[.int .i64 op, .int .i64 sm, .int .i64 sr, .int .i64 sx, .int .i64 dm, .int .i64 dr, .int .i64 dx, .int .i64 n] 27))
    have CB := hide (fun w' h => box_cells w2 #[.int .i64 op, .int .i64 sm, .int .i64 sr, .int .i64 sx, .int .i64 dm, .int .i64 dr, .int .i64 dx, .int .i64 n] 27 w' h)
    have HZ2 := hide (show (w2.alloc (Obj.cells #[.int .i64 op, .int .i64 sm, .int .i64 sr, .int .i64 sx, .int .i64 dm, .int .i64 dr, .int .i64 dx, .int .i64 n] 27)).heap.size = w2.heap.size + 1 by simp)
    have R3 := hide (hr.later (unhide B3))
    clear hb2 Q1 B1 B2
    go_wp2_with fail
    refine (toIntS_any a0 len0 cap0 ns _ hl (by omega) (unhide R3)).mono ?_
    rintro e w4 ⟨v4, rfl, own4, hb4⟩
    have s4 := hb4.size
    rw [unhide HZ2] at s4
    have B4 := hide ((unhide B3).trans (hb4.mono (by rw [unhide HZ2]; omega)))
    have C4 := hide (show Below (w2.heap.size + 1) (w2.alloc (Obj.cells #[.int .i64 op, .int .i64 sm, .int .i64 sr, .int .i64 sx, .int .i64 dm, .int .i64 dr, .int .i64 dx, .int .i64 n] 27)) w4 by rw [unhide HZ2] at hb4; exact hb4)
    have Q4 := hide (unhide QI v4 _ w4 own4 ((unhide HTB).later (unhide B4)))
    have O4 := hide own4
    clear own4 hb4 B3 R3 QI
    go_wp2_with fail
    refine (unhide Q4).mono ?_
    rintro e w5 ⟨rfl, hb5⟩
    have s5 := hb5.size
    have C5 := hide ((unhide C4).trans (hb5.mono s4))
    have CC := unhide CB w5 (unhide C5)
    have c0 : ∀ o, (w5.alloc o).cell? ⟨w2.heap.size, 0, none⟩ = some (.int .i64 op) := fun o => alloc_cell (CC 0 _ rfl) o
    have c1 : ∀ o, (w5.alloc o).cell? ⟨w2.heap.size, 1, none⟩ = some (.int .i64 sm) := fun o => alloc_cell (CC 1 _ rfl) o
    have c2 : ∀ o, (w5.alloc o).cell? ⟨w2.heap.size, 2, none⟩ = some (.int .i64 sr) := fun o => alloc_cell (CC 2 _ rfl) o
    have c3 : ∀ o, (w5.alloc o).cell? ⟨w2.heap.size, 3, none⟩ = some (.int .i64 sx) := fun o => alloc_cell (CC 3 _ rfl) o
    have c4 : ∀ o, (w5.alloc o).cell? ⟨w2.heap.size, 4, none⟩ = some (.int .i64 dm) := fun o => alloc_cell (CC 4 _ rfl) o
    have c5 : ∀ o, (w5.alloc o).cell? ⟨w2.heap.size, 5, none⟩ = some (.int .i64 dr) := fun o => alloc_cell (CC 5 _ rfl) o
    have c6 : ∀ o, (w5.alloc o).cell? ⟨w2.heap.size, 6, none⟩ = some (.int .i64 dx) := fun o => alloc_cell (CC 6 _ rfl) o
    have c7 : ∀ o, (w5.alloc o).cell? ⟨w2.heap.size, 7, none⟩ = some (.int .i64 n) := fun o => alloc_cell (CC 7 _ rfl) o
    have B5 := hide (((unhide B4).trans (hb5.mono (by omega))).alloc (by omega) (Obj.cells #[.int .i64 op, .int .i64 sm, .int .i64 sr, .int .i64 sx, .int .i64 dm, .int .i64 dr, .int .i64 dx, .int .i64 n] 27))
    have O5 := hide (World.ownsRow.alloc ((unhide O4).later hb5) (Obj.cells #[.int .i64 op, .int .i64 sm, .int .i64 sr, .int .i64 sx, .int .i64 dm, .int .i64 dr, .int .i64 dx, .int .i64 n] 27))
    clear CC hb5 Q4 B4 C4 O4
    have hz5 := hide (show (w5.alloc (Obj.cells #[.int .i64 op, .int .i64 sm, .int .i64 sr, .int .i64 sx, .int .i64 dm, .int .i64 dr, .int .i64 dx, .int .i64 n] 27)).heap.size = w5.heap.size + 1 by simp)
    go_wp2_with fail
    refine (unhide EQ _).mono ?_
    rintro e w6 ⟨rfl, hb6⟩
    have s6 := hb6.size
    rw [unhide hz5] at s6
    have B6 := hide ((unhide B5).trans (hb6.mono (by rw [unhide hz5]; omega)))
    have O6 := hide (show OwnN w6 _ v4 ns from OwnN.later (unhide O5) hb6)
    clear hb6 B5 O5 EQ c0 c1 c2 c3 c4 c5 c6 c7
    go_wp2_with fail
    refine (toIntS_any a0 len0 cap0 ns w6 hl (by omega) (hr.later (unhide B6))).mono ?_
    rintro e w7 ⟨v7, rfl, own7, hb7⟩
    have s7 := hb7.size
    have Q7 := hide (eqIntS_own v4 v7 ns _ _ w7 (by omega) ((unhide O6).later hb7) own7)
    have B7 := hide ((unhide B6).trans (hb7.mono (by omega)))
    clear own7 hb7 B6 O6
    go_wp2_with fail
    refine (unhide Q7).mono ?_
    rintro e w8 ⟨rfl, hb8⟩
    go_wp2
    go_ret
    exact ⟨rfl, (unhide B7).trans (hb8.mono (by omega))⟩

set_option maxRecDepth 100000 in
theorem lifted (os : Os) (started : os.Started) (H : Type) (enc : TypeId × Value → H) :
    ReturnsInHanded {} Tryd.checked os 6 .any (fun w args => (Rows.fnExactDecodeSpec.pre enc Tryd.prog Tryd.f6 [] false w args ∧ laidMetH Tryd.prog Rows.fnExactDecodeRow.laid w) ∧ sizedMet enc Tryd.prog Tryd.f6 (OpenSpec.ofChange Rows.fnExactDecodeSpec) false w args)
      (Rows.fnExactDecodeSpec.post enc Tryd.prog Tryd.f6 false true false false) := by
  refine returnsInHanded_of_change_and (C := Tryd.checked) (X := fun w _ => laidMetH Tryd.prog Rows.fnExactDecodeRow.laid w) (fun _ _ _ hh h => h.of_heap hh) own started (by kernel_rfl) Tryd.func6
    (ChangeSpec.witness_shaped (enc := enc) (C := Tryd.checked) (os := os) (X := fun w _ => laidMetH Tryd.prog Rows.fnExactDecodeRow.laid w) false (World.laidAll Tryd.prog os Rows.fnExactDecodeRow.laid) #[.slice none 0 0, .int .i64 0] 8 (World.laidAll_os _ _ _)
      (World.shaped_of_ZipB (by kernel_rfl) (by kernel_rfl)) (by kernel_rfl) (by kernel_rfl) (by kernel_rfl)
      (by rw [MakeChecks.laidMetH_plain _ _ _ (by kernel_rfl)]; exact laidMet_laidAll _ (by kernel_rfl) (by kernel_rfl))) ?_
  intro W base args ds gs before hval0 hW _ _ hL _
  have hval : ∀ (j : Nat) t v, Tryd.f6.params[j]? = some t → args[j]? = some v → Value.okWide Tryd.prog W .any base t v := hval0
  have hW' := hW
  obtain ⟨p, q, hA0, hV, rfl, hfz, hnd⟩ := hW
  have hA : DataW.TrodAll enc Tryd.prog W 0 (fun _ => true) true Tryd.f6.params.toList args.toList ds p := hA0
  rw [Tryd.params6] at hA hval
  obtain ⟨v0, vs0, d0, ds0, p0, q0, hargs, rfl, rfl, h0, r0⟩ := trodAll_cons hA
  obtain ⟨v1, vs1, d1, ds1, p1, q1, rfl, rfl, rfl, h1, r1⟩ := trodAll_cons r0
  obtain ⟨rfl, rfl, rfl⟩ := trodAll_nil r1
  obtain rfl : args = #[v0, v1] := by cases args; simp_all
  have kV := hV
  obtain ⟨gv, tv, cv, fv, dv, pv, rfl, _⟩ := trodVars_one hV
  have k0 := h0
  have lt0 : ∀ x ∈ p0, x.block < W.heap.size := by obtain ⟨m, hm⟩ := k0; exact DataW.trod_lt m _ _ _ hm
  obtain ⟨a0, len0, cap0, rfl⟩ := okWide_slice Tryd.underlying29 (hval 0 29 v0 rfl rfl)
  obtain ⟨z0, w0⟩ : ∃ zs, IsRow .i64 W a0 len0 cap0 zs := by
    obtain ⟨fuel, hf⟩ := h0
    rcases open_ints Tryd.underlying29 Tryd.underlying3 (by kernel_rfl) hf with ⟨hcs, _⟩ | ⟨x, l, c, zs, hcs, _, hl, hm, hz, _, hcell, hwz⟩
    · simp [Value.cells] at hcs
      obtain ⟨rfl, rfl, rfl⟩ := hcs
      exact ⟨[], .inl ⟨rfl, rfl, rfl, rfl⟩⟩
    · simp [Value.cells] at hcs
      obtain ⟨rfl, rfl, rfl⟩ := hcs
      exact ⟨zs, .inr ⟨_, rfl, hl, hm, by simpa using hz, hcell, hwz⟩⟩
  have k1 := h1
  have lt1 : ∀ x ∈ p1, x.block < W.heap.size := by obtain ⟨m, hm⟩ := k1; exact DataW.trod_lt m _ _ _ hm
  obtain ⟨a1, rfl, _, _, w1⟩ := open_int Tryd.underlying3 (hval 1 3 v1 rfl rfl) h1
  clear hA0 hval0
  refine (walk a0 len0 cap0 z0 a1 w1 W w0 (tab_of_laid hL)).mono fun e W' ⟨he, bel⟩ => ?_
  subst he
  exact ⟨_, rfl, _, _, _, [], _, _, hW', trodAll_mk1 (shut_bool Tryd.underlying4 _), (trodAll_cons_mk (Below.trod laidOut (by kernel_rfl) (of_decide_eq_true (by kernel_rfl)) k0 bel lt0) (trodAll_cons_mk (Below.trod laidOut (by kernel_rfl) (of_decide_eq_true (by kernel_rfl)) k1 bel lt1) trodAll_mk0)), bel.trodVars laidOut (by kernel_rfl) kV, bel.frame _, fun h => by cases h⟩

theorem proved : Rows.FnExactDecodeSaid :=
  OpenClaim.holds_of_wide 6 Tryd.f6 rfl rfl rfl rfl rfl rfl rfl ⟨rfl, rfl, rfl, rfl, rfl⟩ rfl rfl rfl rfl rfl (by kernel_rfl) Tryd.func6 (by kernel_rfl)
    (of_decide_eq_true (by kernel_rfl)) (by unfold Func.isWrapper; first | (rw [if_pos (by decide +kernel)]; kernel_rfl) | (rw [if_neg (by decide +kernel)]; exact ⟨rfl, rfl⟩))
    (fun os started H enc _ => lifted os started H enc)
end Go.Proofs.YtomoakfemdjpbaaDoor.fnExactDecode

namespace Go.Proofs.YtomoakfemdjpbaaDoor
theorem fnExactDecode_holds : Rows.FnExactDecodeCardSaid :=
  Claim7.holds_tied_plain_at .later [] [.data] true (true, "9746663066c250d338f27c0162c702558549db257cec92d0bdd35661a76f4db4") false
    fnExactDecode.proved (fun _ h => by cases h) (by kernel_rfl) (fun _ h => by cases h) fnExactDecode_row_tie rfl ⟨rfl, rfl⟩ (by kernel_rfl) rfl
    (fun f fn hf hfn => by
      obtain rfl : f = 6 := Option.some.inj ((show Tryd.prog.funcNamed "loop.example/g00329/laws.FnExactDecode" = some 6 by kernel_rfl).symm.trans hf) |>.symm
      obtain rfl : fn = Tryd.f6 := (Option.some.inj (Tryd.func6.symm.trans hfn)).symm
      exact ⟨by kernel_rfl, fun j t ht => by
        rw [Tryd.params6] at ht
        have hm : t ∈ [29, 3] := by simpa using Array.mem_of_getElem? ht
        have hall : ([29, 3].all fun u => !Tryd.prog.wantsStandIn u) = true := by kernel_rfl
        exact (show Tryd.prog.wantsStandIn t = false by simpa using List.all_eq_true.1 hall t hm)⟩)
    (by kernel_rfl)
#print axioms fnExactDecode_holds
end Go.Proofs.YtomoakfemdjpbaaDoor
