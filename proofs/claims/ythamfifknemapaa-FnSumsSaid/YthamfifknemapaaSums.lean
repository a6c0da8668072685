/- For every slice of bytes: the sum of drawn bytes turns with any one byte, and is a word: the law FnSums returns true at every argument; no condition. -/
import Derived.Test.YthamfifknemapaaRows
import Derived.Test.YthamfifknemapaaSumsC
import Derived.WalkKit
import Derived.ProofKit
import Derived.OpenShut
import Derived.ShutString
import Derived.ChangeOld
import Derived.Below
namespace Go.Proofs.Ythamfifknemapaa.fnSums
open Go.ChangeShapes Go.WideShapes Go.ChangeAt Go.RowKit
open Go.ChangeMaps (open_string shut_string)
set_option linter.unusedVariables false

theorem own : ownKnob Try.prog.godebug = none := by kernel_rfl
theorem laidOut : laidOutB Try.prog = true := by kernel_rfl

theorem walk (a0 : Option Addr) (len0 cap0 : Nat) (z0 : List Int) (w : World) (w0 : IsRow .u8 w a0 len0 cap0 z0) :
    Calls Try.prog 4 #[.slice a0 len0 cap0] w fun e w' => e = .returned (.bool true) ∧ Below w.heap.size w w' := by
  obtain ⟨xs, hl, hlc, hm, hr⟩ := rd_of_row w0
  unfold maxLen at hm
  obtain ⟨i0, hi, hz0, hz1, hz2⟩ := info_parts Try.info5
  by_cases hbig : 1048576 < len0
  · go_enter Try.func4, Try.ntmps4
    go_wp2
    go_ret
    exact ⟨rfl, Below.refl _ _⟩
  · go_enter Try.func4, Try.ntmps4
    go_wp2_with fail
    refine (big_any a0 len0 cap0 w (by omega)).mono ?_
    rintro e w' ⟨he, hw'⟩
    rw [show decide ((1048576 : Int) < (len0 : Int)) = false by simp; omega] at he
    rw [hw', he]
    clear hw' he w'
    go_wp2_with fail
    refine (drawSumOf_any a0 len0 cap0 xs w hl (by omega) hr).mono ?_
    rintro e w1 ⟨v1, ys, rfl, nn1, hyl, own1, hb1⟩
    obtain ⟨L, hL⟩ : ∃ L, ys.length = L := ⟨_, rfl⟩
    have hL9 : L ≤ 9 := by omega
    unfold OwnB at own1
    rw [hL] at own1
    have K1 := hide own1
    have K2 := hide (one_new w1 7 (by omega) (by omega))
    have s1 := hb1.size
    clear own1 hyl
    go_wp2_with (first | (at_builtin; go_must (refine wpList_append_own _ rfl (.tmp 9) (.tmp 10) 22 rfl w.heap.size 5 i0 (.int .u8 0) 1 1 Try.underlying22 hi hz0 hz1 hz2 rfl (by decide) v1 L (cellsB ys) rfl ((unhide K1).alloc _) ⟨w1.heap.size, 0, none⟩ 1 1 (cellsB [UInt8.ofNat (7 : Int).toNat]) rfl rfl (unhide K2) (cellsB_one _) (by unfold maxLen; omega) (by omega) (by simp; omega) ?_; intro v2 w2 hown2 hgrow2 hnil)))
    rw [← cellsB_append] at hown2
    obtain ⟨zs, hzs⟩ : ∃ zs, zs = ys ++ [UInt8.ofNat (7 : Int).toNat] := ⟨_, rfl⟩
    rw [← hzs] at hown2
    have hzl : zs.length = L + 1 := by rw [hzs, List.length_append, hL]; rfl
    have own2 : OwnB w2 w.heap.size v2 zs := by unfold OwnB; rw [hzl]; exact hown2
    have B2 : Below w.heap.size w w2 := (hb1.alloc (by omega) _).grown hgrow2 (by simp; omega) (fun k h => (World.ownsRow.lt (unhide K1) k h).1)
    obtain ⟨g, c, hv, hg, hg', hc, hc'⟩ := own2.form (by omega)
    rw [hzl] at hv
    subst hv
    clear hown2 hgrow2 hnil hzs K1 K2 nn1
    go_wp2_with fail
    refine (sumI_any _ (L + 1) c zs w2 hzl (by omega) own2.rd1).mono ?_
    rintro e w3 ⟨rfl, hw3⟩
    rw [hw3]
    clear hw3 w3
    go_wp2_with fail
    refine (at_any a0 len0 cap0 2 xs w2 hl (by omega) (by omega) (hr.later B2)).mono ?_
    rintro e w3 ⟨x, hx0, hx1, rfl, hw3⟩
    rw [hw3]
    clear hw3 w3
    obtain ⟨xk, rfl⟩ := Int.eq_ofNat_of_zero_le hx0
    go_wp2
    obtain ⟨k, hk, hkl⟩ : ∃ k : Nat, (xk : Int) % ((L : Int) + 1) = (k : Int) ∧ k < L + 1 := by
      obtain ⟨k, hk⟩ := Int.eq_ofNat_of_zero_le (Int.emod_nonneg (xk : Int) (show ((L : Int) + 1) ≠ 0 by omega))
      exact ⟨k, hk, by have := Int.emod_lt_of_pos (xk : Int) (show (0 : Int) < (L : Int) + 1 by omega); omega⟩
    rw [hk]
    clear hk
    have hkI : (k : Int) < (L : Int) + 1 := by omega
    have hcx : w2.cell? ⟨g, k, none⟩ = some (.int .u8 (bAt zs k)) := by
      rcases own2.rd1 with h0 | ⟨b, off, e, hb, hcl⟩
      · rw [h0] at hzl; simp at hzl
      · cases e; have := hcl k (by omega); simpa using this
    have hfz : w2.frozen? ⟨g, k, none⟩ = false := by
      unfold OwnB at own2; rw [hzl] at own2; exact own2.frozenAt k
    have hbd := bAt_bd zs k
    go_region_with (go_at_call 24; refine (at_any a0 len0 cap0 3 xs _ hl (by omega) (by omega) (hr.later B2.drew)).mono ?_; rintro e w3 ⟨y, hy0, hy1, rfl, hw3⟩; rw [hw3]; clear hw3 w3)
    all_goals
      go_wp2_with fail
      have hX := xor_u8 (bAt zs k) (1 + y % 255) hbd.1 hbd.2 (by omega) (by omega)
      have st : (w2.setCell ⟨g, k, none⟩ (.int .u8 (bits .xor .u8 (bAt zs k) (1 + y % 255)))).ownsRow w.heap.size 5 1 (.slice (some ⟨g, 0, none⟩) (L + 1) c) (L + 1) (cellsB (zs.set k (UInt8.ofNat (bits .xor .u8 (bAt zs k) (1 + y % 255)).toNat))) := by
        have h1 := own2
        unfold OwnB at h1
        rw [hzl] at h1
        have h2 := (h1.stored k (.int .u8 (bits .xor .u8 (bAt zs k) (1 + y % 255)))).1
        rw [cellsB_set zs k _ hX.1 hX.2.1] at h2
        exact h2
      have hlen2 : (zs.set k (UInt8.ofNat (bits .xor .u8 (bAt zs k) (1 + y % 255)).toNat)).length = L + 1 := by rw [List.length_set]; exact hzl
      have own3 : OwnB (w2.setCell ⟨g, k, none⟩ (.int .u8 (bits .xor .u8 (bAt zs k) (1 + y % 255)))) w.heap.size (.slice (some ⟨g, 0, none⟩) (L + 1) c) (zs.set k (UInt8.ofNat (bits .xor .u8 (bAt zs k) (1 + y % 255)).toNat)) := by
        unfold OwnB
        rw [hlen2]
        exact st
      have hturn := negTot_turns zs k (UInt8.ofNat (bits .xor .u8 (bAt zs k) (1 + y % 255)).toNat) (by omega) (by
        have e : ((UInt8.ofNat (bits .xor .u8 (bAt zs k) (1 + y % 255)).toNat).toNat : Int) = bits .xor .u8 (bAt zs k) (1 + y % 255) := by
          have h3 := hX.1
          have h4 := hX.2.1
          simp
          omega
        rw [e]
        exact hX.2.2)
      rw [hzl] at hturn
      have hb := negTot_bd zs (L + 1)
      have B3 : Below w.heap.size w (w2.setCell ⟨g, k, none⟩ (.int .u8 (bits .xor .u8 (bAt zs k) (1 + y % 255)))).drew := (B2.setCell (p := ⟨g, k, none⟩) hg _).drew
      refine (sumI_any _ (L + 1) c _ _ hlen2 (by omega) (by exact (own3.rd1 : Rd (w2.setCell ⟨g, k, none⟩ (.int .u8 (bits .xor .u8 (bAt zs k) (1 + y % 255)))).drew _ _))).mono ?_
      rintro e w4 ⟨rfl, hw4⟩
      rw [hw4]
      clear hw4 w4
      have hneB : (negTot zs (L + 1) != negTot (zs.set k (UInt8.ofNat (bits .xor .u8 (bAt zs k) (1 + y % 255)).toNat)) (L + 1)) = true := by rw [bne_iff_ne]; exact hturn
      clear hturn hX st own3 own2 hcx hfz
      generalize negTot zs (L + 1) = p1 at *
      generalize negTot (zs.set k (UInt8.ofNat (bits .xor .u8 (bAt zs k) (1 + y % 255)).toNat)) (L + 1) = p2 at *
      go_wp2
      go_ret
      exact ⟨rfl, B3⟩

set_option maxRecDepth 100000 in
theorem lifted (os : Os) (started : os.Started) (H : Type) (enc : TypeId × Value → H) :
    ReturnsInHanded {} Try.checked os 4 .any (Rows.fnSumsSpec.pre6 enc Try.prog Try.f4 Rows.fnSumsRow.domain false) (Rows.fnSumsSpec.post enc Try.prog Try.f4 false true false false) := by
  refine returnsInHanded_of_change (C := Try.checked) own started (by kernel_rfl) Try.func4
    (ChangeSpec.witness6 (enc := enc) (C := Try.checked) false ⟨#[], #[.slice none 0 0], []⟩ 8 (by kernel_rfl) (by kernel_rfl) (by kernel_rfl) (by kernel_rfl)) ?_
  intro W base args ds gs before hval0 hW hcnd _
  have hval : ∀ (j : Nat) t v, Try.f4.params[j]? = some t → args[j]? = some v → Value.okWide Try.prog W .any base t v := hval0
  have hW' := hW
  obtain ⟨p, q, hA0, hV, rfl, hfz, hnd⟩ := hW
  have hA : DataW.TrodAll enc Try.prog W 0 (fun _ => true) true Try.f4.params.toList args.toList ds p := hA0
  rw [Try.params4] at hA hval
  obtain ⟨v0, vs0, d0, ds0, p0, q0, hargs, rfl, rfl, h0, r0⟩ := trodAll_cons hA
  obtain ⟨rfl, rfl, rfl⟩ := trodAll_nil r0
  obtain rfl : args = #[v0] := by cases args; simp_all
  obtain ⟨rfl, rfl⟩ := trodVars_none hV
  obtain ⟨a0, len0, cap0, rfl⟩ := okWide_slice Try.underlying22 (hval 0 22 v0 rfl rfl)
  have k0 := h0
  have lt0 : ∀ x ∈ p0, x.block < W.heap.size := by obtain ⟨m, hm⟩ := k0; exact DataW.trod_lt m _ _ _ hm
  obtain ⟨z0, w0⟩ : ∃ zs, IsRow .u8 W a0 len0 cap0 zs := by
    obtain ⟨fuel, hf⟩ := h0
    rcases open_ints Try.underlying22 Try.underlying5 (by kernel_rfl) hf with ⟨hcs, _⟩ | ⟨x, l, c, zs, hcs, _, hl, hm, hz, _, hcell, hwz⟩
    · simp [Value.cells] at hcs
      obtain ⟨rfl, rfl, rfl⟩ := hcs
      exact ⟨[], .inl ⟨rfl, rfl, rfl, rfl⟩⟩
    · simp [Value.cells] at hcs
      obtain ⟨rfl, rfl, rfl⟩ := hcs
      exact ⟨zs, .inr ⟨_, rfl, hl, hm, by simpa using hz, hcell, hwz⟩⟩
  clear hA0 hval0
  refine (walk a0 len0 cap0 z0 W w0).mono fun e W' ⟨he, bel⟩ => ?_
  subst he
  exact ⟨_, rfl, _, _, _, [], _, [], hW', trodAll_mk1 (shut_bool Try.underlying4 _), (trodAll_cons_mk (Below.trod laidOut (by kernel_rfl) (of_decide_eq_true (by kernel_rfl)) k0 bel lt0) trodAll_mk0), rfl, bel.frame _, fun h => by cases h⟩

theorem over : Rows.fnSumsRow.holds Try.pinned (OpenSpec.ofChange Rows.fnSumsSpec) :=
  OpenClaim.holds_of_wide 4 Try.f4 rfl rfl rfl rfl rfl rfl rfl ⟨rfl, rfl, rfl, rfl, rfl⟩ rfl rfl rfl rfl rfl (by kernel_rfl) Try.func4 (by kernel_rfl)
    (of_decide_eq_true (by kernel_rfl)) (by unfold Func.isWrapper; first | (rw [if_pos (by decide +kernel)]; kernel_rfl) | (rw [if_neg (by decide +kernel)]; exact ⟨rfl, rfl⟩))
    (fun os started H enc _ => lifted os started H enc)

theorem proved : Rows.FnSumsSaid := over
end Go.Proofs.Ythamfifknemapaa.fnSums

namespace Go.Proofs.Ythamfifknemapaa
theorem fnSums_holds : Rows.FnSumsSaid := fnSums.proved
#print axioms fnSums_holds
end Go.Proofs.Ythamfifknemapaa
