/- For every slice of bytes: drawn words and texts come back of their bytes: the law returns true at every argument. No condition. -/
import Derived.Test.YtjpbjbnialehbaaRows
import Derived.Test.YtjpbjbnialehbaaWordsC
import Derived.WalkKit
import Derived.ProofKit
import Derived.OpenShut
import Derived.ShutString
import Derived.ChangeOld
import Derived.Below
namespace Go.Proofs.Ytjpbjbnialehbaa.fnWords
open Go.ChangeShapes Go.WideShapes Go.ChangeAt Go.RowKit
open Go.ChangeMaps (open_string shut_string)
set_option linter.unusedVariables false

theorem own : ownKnob Try.prog.godebug = none := by kernel_rfl
theorem laidOut : laidOutB Try.prog = true := by kernel_rfl

set_option maxHeartbeats 4000000 in
theorem walk (a0 : Option Addr) (len0 cap0 : Nat) (z0 : List Int) (w : World) (w0 : IsRow .u8 w a0 len0 cap0 z0) :
    Calls Try.prog 3 #[.slice a0 len0 cap0] w fun e w' => e = .returned (.bool true) ∧ Below w.heap.size w w' := by
  obtain ⟨xs, hl, hlc, hm, hr⟩ := rd_of_row w0
  unfold maxLen at hm
  by_cases hbig : 1048576 < len0
  · go_enter Try.func3, Try.ntmps3
    go_wp2
    go_ret
    exact ⟨rfl, Below.refl _ _⟩
  · go_enter Try.func3, Try.ntmps3
    go_wp2_with fail
    refine (big_any a0 len0 cap0 w (by omega)).mono ?_
    rintro e w' ⟨he, hw'⟩
    rw [show decide ((1048576 : Int) < (len0 : Int)) = false by simp; omega] at he
    rw [hw', he]
    clear hw' he w'
    go_wp2_with fail
    refine (drawPutW_any a0 len0 cap0 xs w hl (by omega) hr).mono ?_
    rintro e w1 ⟨v1, ys, n, rfl, nn1, hyl, own1, hb1⟩
    obtain ⟨g1, c1, hv1, hB1, hlt1, hc1, hc1'⟩ := own1.formN nn1
    obtain ⟨L, hL⟩ : ∃ L, ys.length = L := ⟨_, rfl⟩
    rw [hL] at hv1 hc1 hyl
    subst hv1
    clear nn1
    go_wp2_with fail
    refine (putWI_any _ L c1 n ys w1 hL (by omega) own1.rd1).mono ?_
    rintro e w2 ⟨v2, rfl, own2, hb2⟩
    have hL2 : (ys ++ [lo n, hi8 n]).length = L + 2 := by rw [List.length_append, hL]; rfl
    obtain ⟨g2, c2, hv2, hB2, hlt2, hc2, hc2'⟩ := own2.form (by omega)
    rw [hL2] at hv2 hc2
    subst hv2
    go_wp2_with fail
    refine (getWI_yes _ (L + 2) c2 L (ys ++ [lo n, hi8 n]) w2 hL2 (by omega) own2.rd1 (by omega)).mono ?_
    rintro e w3 ⟨he, hb3⟩
    rw [wAt_end ys n L hL] at he
    subst he
    have B3 : Below w.heap.size w w3 := hb1.trans ((hb2.mono hb1.size).trans (hb3.mono (Nat.le_trans hb1.size hb2.size)))
    clear own1 own2 hb1 hb2 hb3
    go_wp2_with fail
    refine (drawPutText_any a0 len0 cap0 xs w3 hl (by omega) (hr.later B3)).mono ?_
    rintro e w4 ⟨v4, cs, s, rfl, nn4, hcl, hss, own4, hb4⟩
    obtain ⟨g4, c4, hv4, hB4, hlt4, hc4, hc4'⟩ := own4.formN nn4
    obtain ⟨M, hM⟩ : ∃ M, cs.length = M := ⟨_, rfl⟩
    rw [hM] at hv4 hc4 hcl
    subst hv4
    clear nn4
    have s3 := B3.size
    by_cases hs : 1000 < s.size
    · go_wp2_with fail
      refine (putTI_big _ M c4 s cs w4 hM (by omega) hs (by omega) own4.rd1).mono ?_
      rintro e w5 ⟨v5, rfl, nn5, own5, hb5⟩
      obtain ⟨g5, c5, hv5, hB5, hlt5, hc5, hc5'⟩ := own5.formN nn5
      rw [hM] at hv5
      subst hv5
      clear nn5
      go_wp2_with fail
      refine (getTI_no _ M c5 M w5 (by omega) (by omega) (by omega) (Or.inr (by omega))).mono ?_
      rintro e w6 ⟨rfl, hw6⟩
      rw [hw6]
      clear hw6 w6
      go_wp2_with fail
      refine (signed_any n w5).mono ?_
      rintro e w6 ⟨x, hx0, hx1, hx2, rfl, hw6⟩
      rw [hw6]
      clear hw6 w6
      have hsI : (1000 : Int) < (s.size : Int) := by omega
      clear hx2
      go_wp2_with fail
      refine (sameBytes_same _ _ M c5 c4 cs w5 hM (by omega) own5.rd1 (own4.later hb5).rd1).mono ?_
      rintro e w6 ⟨rfl, hb6⟩
      go_wp2
      go_ret
      have s4 := hb4.size
      have s5 := hb5.size
      exact ⟨rfl, B3.trans ((hb4.mono (by omega)).trans ((hb5.mono (by omega)).trans (hb6.mono (by omega))))⟩
    · go_wp2_with fail
      refine (putTI_small _ M c4 s cs w4 hM (by omega) (by omega) own4.rd1).mono ?_
      rintro e w5 ⟨v5, rfl, nn5, own5, hb5⟩
      rw [List.append_assoc] at own5
      obtain ⟨g5, c5, hv5, hB5, hlt5, hc5, hc5'⟩ := own5.formN nn5
      have hM5 : (cs ++ ([lo (s.size : Int), hi8 (s.size : Int)] ++ s.data.toList)).length = M + 2 + s.size := by
        have e : s.data.toList.length = s.size := by simp
        rw [List.length_append, List.length_append, hM, e]
        simp
        omega
      rw [hM5] at hv5 hc5
      subst hv5
      clear nn5
      go_wp2_with fail
      refine (getTI_yes _ (M + 2 + s.size) c5 M s.size (cs ++ ([lo (s.size : Int), hi8 (s.size : Int)] ++ s.data.toList)) w5 hM5 hc5 (by unfold maxLen at hc5'; omega) own5.rd1 (by omega) (by omega) (by rw [wAt_mid cs _ _ M hM]; exact hide (by omega))).mono ?_
      rintro e w6 ⟨he, hb6⟩
      rw [txt_mid cs _ _ s M hM] at he
      subst he
      go_wp2_with fail
      refine (signed_any n w6).mono ?_
      rintro e w7 ⟨x, hx0, hx1, hx2, rfl, hw7⟩
      rw [hw7]
      clear hw7 w7
      have s4 := hb4.size
      have s5 := hb5.size
      have B6 : Below w.heap.size w w6 := B3.trans ((hb4.mono (by omega)).trans ((hb5.mono (by omega)).trans (hb6.mono (by omega))))
      clear own4 own5 B3 hb4 hb5 hb6
      have HX := hide hx2
      clear hx2
      go_wp2_with fail
      refine (wrapI_any n w6).mono ?_
      rintro e w7 ⟨rfl, hw7⟩
      rw [hw7]
      clear hw7 w7
      go_wp2_with fail
      refine (wrapI_any x w6).mono ?_
      rintro e w7 ⟨rfl, hw7⟩
      rw [hw7, unhide HX]
      clear hw7 w7
      go_wp2_with fail
      refine (wrapI_any n w6).mono ?_
      rintro e w7 ⟨rfl, hw7⟩
      rw [hw7]
      clear hw7 w7
      have hw0 : 0 ≤ n % 65536 := by omega
      have hw1 : n % 65536 ≤ 65535 := by omega
      go_wp2
      go_ret
      exact ⟨rfl, B6⟩

set_option maxRecDepth 100000 in
theorem lifted (os : Os) (started : os.Started) (H : Type) (enc : TypeId × Value → H) :
    ReturnsInHanded {} Try.checked os 3 .any (Rows.fnWordsSpec.pre6 enc Try.prog Try.f3 Rows.fnWordsRow.domain false) (Rows.fnWordsSpec.post enc Try.prog Try.f3 false true false false) := by
  refine returnsInHanded_of_change (C := Try.checked) own started (by kernel_rfl) Try.func3
    (ChangeSpec.witness6 (enc := enc) (C := Try.checked) false ⟨#[], #[.slice none 0 0], []⟩ 8 (by kernel_rfl) (by kernel_rfl) (by kernel_rfl) (by kernel_rfl)) ?_
  intro W base args ds gs before hval0 hW hcnd _
  have hval : ∀ (j : Nat) t v, Try.f3.params[j]? = some t → args[j]? = some v → Value.okWide Try.prog W .any base t v := hval0
  have hW' := hW
  obtain ⟨p, q, hA0, hV, rfl, hfz, hnd⟩ := hW
  have hA : DataW.TrodAll enc Try.prog W 0 (fun _ => true) true Try.f3.params.toList args.toList ds p := hA0
  rw [Try.params3] at hA hval
  obtain ⟨v0, vs0, d0, ds0, p0, q0, hargs, rfl, rfl, h0, r0⟩ := trodAll_cons hA
  obtain ⟨rfl, rfl, rfl⟩ := trodAll_nil r0
  obtain rfl : args = #[v0] := by cases args; simp_all
  obtain ⟨rfl, rfl⟩ := trodVars_none hV
  have k0 := h0
  have lt0 : ∀ x ∈ p0, x.block < W.heap.size := by obtain ⟨m, hm⟩ := k0; exact DataW.trod_lt m _ _ _ hm
  obtain ⟨a0, len0, cap0, rfl⟩ := okWide_slice Try.underlying22 (hval 0 22 v0 rfl rfl)
  obtain ⟨z0, w0⟩ : ∃ zs, IsRow .u8 W a0 len0 cap0 zs := by
    obtain ⟨fuel, hf⟩ := h0
    rcases open_ints Try.underlying22 Try.underlying5 (by kernel_rfl) hf with ⟨hcs, _⟩ | ⟨x, l, c, zs, hcs, _, hl, hm, hz, _, hcell, hwz⟩
    · simp [Value.cells] at hcs
      obtain ⟨rfl, rfl, rfl⟩ := hcs
      exact ⟨[], .inl ⟨rfl, rfl, rfl, rfl⟩⟩
    · simp [Value.cells] at hcs
      obtain ⟨rfl, rfl, rfl⟩ := hcs
      exact ⟨zs, .inr ⟨_, rfl, hl, hm, by simpa using hz, hcell, hwz⟩⟩
  clear hA0 hval0
  refine (walk a0 len0 cap0 z0 W w0).mono fun e W' ⟨he, bel⟩ => ?_
  subst he
  exact ⟨_, rfl, _, _, _, [], _, [], hW', trodAll_mk1 (shut_bool Try.underlying4 _), (trodAll_cons_mk (Below.trod laidOut (by kernel_rfl) (of_decide_eq_true (by kernel_rfl)) k0 bel lt0) trodAll_mk0), rfl, bel.frame _, fun h => by cases h⟩

theorem over : Rows.fnWordsRow.holds Try.pinned (OpenSpec.ofChange Rows.fnWordsSpec) :=
  OpenClaim.holds_of_wide 3 Try.f3 rfl rfl rfl rfl rfl rfl rfl ⟨rfl, rfl, rfl, rfl, rfl⟩ rfl rfl rfl rfl rfl (by kernel_rfl) Try.func3 (by kernel_rfl)
    (of_decide_eq_true (by kernel_rfl)) (by unfold Func.isWrapper; first | (rw [if_pos (by decide +kernel)]; kernel_rfl) | (rw [if_neg (by decide +kernel)]; exact ⟨rfl, rfl⟩))
    (fun os started H enc _ => lifted os started H enc)

theorem proved : Rows.FnWordsSaid := over
end Go.Proofs.Ytjpbjbnialehbaa.fnWords

namespace Go.Proofs.Ytjpbjbnialehbaa
theorem fnWords_holds : Rows.FnWordsSaid := fnWords.proved
#print axioms fnWords_holds
end Go.Proofs.Ytjpbjbnialehbaa
