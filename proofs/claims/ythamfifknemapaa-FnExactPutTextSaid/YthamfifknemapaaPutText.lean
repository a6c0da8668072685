/- For every slice of bytes and every text, the program's PutText answers as the model's PutText, writes into no argument, and its answer owns its memory: the law FnExactPutText returns true at every argument; no condition. -/
import Derived.Test.YthamfifknemapaaRows
import Derived.Test.YthamfifknemapaaBase
import Derived.Test.YthamfifknemapaaSumC
import Derived.Test.YthamfifknemapaaGetC
import Derived.Test.YthamfifknemapaaTextC
import Derived.Test.YthamfifknemapaaPutC
import Derived.Test.YthamfifknemapaaOwnC
import Derived.Test.YthamfifknemapaaPutT
import Derived.WalkKit
import Derived.ProofKit
import Derived.OpenShut
import Derived.ShutString
import Derived.ChangeOld
import Derived.Below
namespace Go.Proofs.Ythamfifknemapaa.fnExactPutText
open Go.ChangeShapes Go.WideShapes Go.ChangeAt Go.RowKit
open Go.ChangeMaps (open_string shut_string)
set_option linter.unusedVariables false

theorem own : ownKnob Try.prog.godebug = none := by kernel_rfl
theorem laidOut : laidOutB Try.prog = true := by kernel_rfl

theorem walk (a0 : Option Addr) (len0 cap0 : Nat) (z0 : List Int) (a1 : ByteArray) (w : World) (w0 : IsRow .u8 w a0 len0 cap0 z0) (w1 : a1.size ≤ maxLen) :
    Calls Try.prog 9 #[.slice a0 len0 cap0, .string a1] w fun e w' => e = .returned (.bool true) ∧ Below w.heap.size w w' := by
  obtain ⟨xs, hl, hlc, hm, hr⟩ := rd_of_row w0
  unfold maxLen at hm
  by_cases hbig : 1048576 < len0
  · go_enter Try.func9, Try.ntmps9
    go_wp2
    go_ret
    exact ⟨rfl, Below.refl _ _⟩
  by_cases hbig2 : 1048576 < a1.size
  · go_enter Try.func9, Try.ntmps9
    go_wp2
    go_ret
    exact ⟨rfl, Below.refl _ _⟩
  · obtain ⟨ys, hyb, P1, P2⟩ := putT_all xs len0 hl (by omega) a1 (by omega)
    have K1 := hide P1
    have K2 := hide P2
    clear P1 P2
    obtain ⟨L, hL⟩ : ∃ L, ys.length = L := ⟨_, rfl⟩
    have hyl : ys.length = L := hL
    have hLb : L ≤ len0 + 1002 := by omega
    clear hL hyb
    go_enter Try.func9, Try.ntmps9
    go_wp2_with fail
    refine (toByteS_own a0 len0 cap0 xs w hl (by omega) hr).mono ?_
    rintro e w1 ⟨rfl, own1, hb1⟩
    go_wp2_with fail
    refine (unhide K2 _ len0 w1 own1.rd1).mono ?_
    rintro e w2 ⟨v0, rfl, nn0, own2, hb2⟩
    obtain ⟨g0, c0, hv0, hg0, hg0', hc0, hc0'⟩ := own2.formN nn0
    rw [hyl] at hv0
    subst hv0
    clear nn0
    go_wp2_with fail
    refine (toByteS_own a0 len0 cap0 xs w2 hl (by omega) ((hr.later hb1).later hb2)).mono ?_
    rintro e w3 ⟨rfl, own3, hb3⟩
    go_wp2_with fail
    refine (unhide K1 _ len0 w3 own3.rd1).mono ?_
    rintro e w4 ⟨v4, rfl, nn4, own4, hb4⟩
    obtain ⟨g4, c4, hv4, hg4, hg4', hc4, hc4'⟩ := own4.formN nn4
    rw [hyl] at hv4
    subst hv4
    clear nn4
    go_wp2_with fail
    refine (eqByteS_same _ _ L c4 c0 ys w4 hyl (by omega) own4.rd1 ((own2.later hb3).later hb4).rd1).mono ?_
    rintro e w5 ⟨rfl, hb5⟩
    go_wp2_with fail
    refine (toByteS_own a0 len0 cap0 xs w5 hl (by omega) (((((hr.later hb1).later hb2).later hb3).later hb4).later hb5)).mono ?_
    rintro e w6 ⟨rfl, own6, hb6⟩
    go_wp2_with fail
    refine (eqByteS_same _ _ len0 len0 len0 xs w6 hl (by omega) (((own3.later hb4).later hb5).later hb6).rd1 own6.rd1).mono ?_
    rintro e w7 ⟨rfl, hb7⟩
    go_wp2_with fail
    refine (markS_any _ len0 len0 1 xs w2.heap.size w7 hl (by omega) (by omega) ((((own3.later hb4).later hb5).later hb6).later hb7)).mono ?_
    rintro e w8 ⟨rfl, own8, hg8⟩
    have z8 := hg8.size
    have q3 := (own3.lt (g := w2.heap.size) rfl).2
    have s1 := hb1.size
    have s2 := hb2.size
    have s3 := hb3.size
    have s4 := hb4.size
    have s5 := hb5.size
    have s6 := hb6.size
    have s7 := hb7.size
    have o0 := ((((own2.later hb3).later hb4).later hb5).later hb6).later hb7
    have o4 := (((own4.later hb5).later hb6).later hb7)
    have B7 : Below w.heap.size w w7 := hb1.trans ((hb2.mono (by omega)).trans ((hb3.mono (by omega)).trans ((hb4.mono (by omega)).trans ((hb5.mono (by omega)).trans ((hb6.mono (by omega)).trans (hb7.mono (by omega)))))))
    have hr7 : Rd w7 a0 xs := hr.later B7
    have B8 : Below w.heap.size w w8 := B7.grown hg8 B7.size (fun k h => by simp at h; omega)
    have hr8 : Rd w8 a0 xs := hr.later B8
    have o0' : OwnB w8 w1.heap.size _ ys := o0.past hg8 (by simp [Value.ownBlock]; omega)
    have o4' : OwnB w8 w3.heap.size _ ys := o4.past hg8 (by simp [Value.ownBlock]; omega)
    clear hr7 own1 own2 own3 own4 own6 own8 o0 o4 hb1 hb2 hb3 hb4 hb5 hb6 hb7 hg8 B7
    have hlt1 : ¬ (1 : Int) + (len0 : Int) < 0 := by omega
    go_wp2_with fail
    refine (eqByteS_same _ _ L c4 c0 ys w8 hyl (by omega) o4'.rd1 o0'.rd1).mono ?_
    rintro e w9 ⟨rfl, hb9⟩
    go_wp2_with fail
    refine (markS_any _ L c4 1 ys w3.heap.size w9 hyl (by omega) (by omega) (o4'.later hb9)).mono ?_
    rintro e w10 ⟨rfl, own10, hg10⟩
    go_wp2_with fail
    refine (heldS_any _ L c4 1 w10 (by omega) (by omega) own10.rd1).mono ?_
    rintro e w11 ⟨rfl, hw11⟩
    subst hw11
    have s9 := hb9.size
    have s10 := hg10.size
    have o0 : OwnB w11 w1.heap.size _ ys := (o0'.later hb9).past hg10 (by simp [Value.ownBlock]; omega)
    have B11 : Below w.heap.size w w11 := (B8.trans (hb9.mono (by omega))).grown hg10 (by omega) (fun k h => by simp at h; omega)
    have hr11 : Rd w11 a0 xs := hr.later B11
    clear hb9 hg10 B8 o0' o4'
    have hlt2 : ¬ (1 : Int) + (L : Int) < 0 := by omega
    go_wp2_with fail
    refine (toByteS_own a0 len0 cap0 xs w11 hl (by omega) hr11).mono ?_
    rintro e w12 ⟨rfl, own12, hb12⟩
    go_wp2_with fail
    refine (unhide K1 _ len0 w12 own12.rd1).mono ?_
    rintro e w13 ⟨v13, rfl, nn13, own13, hb13⟩
    obtain ⟨g13, c13, hv13, hg13, hg13', hc13, hc13'⟩ := own13.formN nn13
    rw [hyl] at hv13
    subst hv13
    clear nn13
    go_wp2_with fail
    refine (eqByteS_same _ _ L c13 c0 ys w13 hyl (by omega) own13.rd1 ((o0.later hb12).later hb13).rd1).mono ?_
    rintro e w14 ⟨rfl, hb14⟩
    go_wp2_with fail
    refine (heldS_any _ L c4 1 w14 (by omega) (by omega) (((own10.later hb12).later hb13).later hb14).rd1).mono ?_
    rintro e w15 ⟨rfl, hw15⟩
    subst hw15
    go_wp2
    go_ret
    have s12 := hb12.size
    have s13 := hb13.size
    exact ⟨rfl, B11.trans ((hb12.mono (by omega)).trans ((hb13.mono (by omega)).trans (hb14.mono (by omega))))⟩

set_option maxRecDepth 100000 in
theorem lifted (os : Os) (started : os.Started) (H : Type) (enc : TypeId × Value → H) :
    ReturnsInHanded {} Try.checked os 9 .any (Rows.fnExactPutTextSpec.pre6 enc Try.prog Try.f9 Rows.fnExactPutTextRow.domain false) (Rows.fnExactPutTextSpec.post enc Try.prog Try.f9 false true false false) := by
  refine returnsInHanded_of_change (C := Try.checked) own started (by kernel_rfl) Try.func9
    (ChangeSpec.witness6 (enc := enc) (C := Try.checked) false ⟨#[], #[.slice none 0 0, .string ByteArray.empty], []⟩ 8 (by kernel_rfl) (by kernel_rfl) (by kernel_rfl) (by kernel_rfl)) ?_
  intro W base args ds gs before hval0 hW hcnd _
  have hval : ∀ (j : Nat) t v, Try.f9.params[j]? = some t → args[j]? = some v → Value.okWide Try.prog W .any base t v := hval0
  have hW' := hW
  obtain ⟨p, q, hA0, hV, rfl, hfz, hnd⟩ := hW
  have hA : DataW.TrodAll enc Try.prog W 0 (fun _ => true) true Try.f9.params.toList args.toList ds p := hA0
  rw [Try.params9] at hA hval
  obtain ⟨v0, vs0, d0, ds0, p0, q0, hargs, rfl, rfl, h0, r0⟩ := trodAll_cons hA
  obtain ⟨v1, vs1, d1, ds1, p1, q1, rfl, rfl, rfl, h1, r1⟩ := trodAll_cons r0
  obtain ⟨rfl, rfl, rfl⟩ := trodAll_nil r1
  obtain rfl : args = #[v0, v1] := by cases args; simp_all
  obtain ⟨rfl, rfl⟩ := trodVars_none hV
  obtain ⟨a0, len0, cap0, rfl⟩ := okWide_slice Try.underlying22 (hval 0 22 v0 rfl rfl)
  have k0 := h0
  have lt0 : ∀ x ∈ p0, x.block < W.heap.size := by obtain ⟨m, hm⟩ := k0; exact DataW.trod_lt m _ _ _ hm
  obtain ⟨z0, w0⟩ : ∃ zs, IsRow .u8 W a0 len0 cap0 zs := by
    obtain ⟨fuel, hf⟩ := h0
    rcases open_ints Try.underlying22 Try.underlying5 (by kernel_rfl) hf with ⟨hcs, _⟩ | ⟨x, l, c, zs, hcs, _, hl, hm, hz, _, hcell, hwz⟩
    · simp [Value.cells] at hcs
      obtain ⟨rfl, rfl, rfl⟩ := hcs
      exact ⟨[], .inl ⟨rfl, rfl, rfl, rfl⟩⟩
    · simp [Value.cells] at hcs
      obtain ⟨rfl, rfl, rfl⟩ := hcs
      exact ⟨zs, .inr ⟨_, rfl, hl, hm, by simpa using hz, hcell, hwz⟩⟩
  obtain ⟨a1, rfl, rfl, rfl, w1⟩ := open_string Try.underlying9 (hval 1 9 v1 rfl rfl) h1
  clear hA0 hval0
  refine (walk a0 len0 cap0 z0 a1 W w0 w1).mono fun e W' ⟨he, bel⟩ => ?_
  subst he
  exact ⟨_, rfl, _, _, _, [], _, [], hW', trodAll_mk1 (shut_bool Try.underlying4 _), (trodAll_cons_mk (Below.trod laidOut (by kernel_rfl) (of_decide_eq_true (by kernel_rfl)) k0 bel lt0) (trodAll_cons_mk (shut_string Try.underlying9 w1) trodAll_mk0)), rfl, bel.frame _, fun h => by cases h⟩

theorem over : Rows.fnExactPutTextRow.holds Try.pinned (OpenSpec.ofChange Rows.fnExactPutTextSpec) :=
  OpenClaim.holds_of_wide 9 Try.f9 rfl rfl rfl rfl rfl rfl rfl ⟨rfl, rfl, rfl, rfl, rfl⟩ rfl rfl rfl rfl rfl (by kernel_rfl) Try.func9 (by kernel_rfl)
    (of_decide_eq_true (by kernel_rfl)) (by unfold Func.isWrapper; first | (rw [if_pos (by decide +kernel)]; kernel_rfl) | (rw [if_neg (by decide +kernel)]; exact ⟨rfl, rfl⟩))
    (fun os started H enc _ => lifted os started H enc)

theorem proved : Rows.FnExactPutTextSaid := over
end Go.Proofs.Ythamfifknemapaa.fnExactPutText

namespace Go.Proofs.Ythamfifknemapaa
theorem fnExactPutText_holds : Rows.FnExactPutTextSaid := fnExactPutText.proved
#print axioms fnExactPutText_holds
end Go.Proofs.Ythamfifknemapaa
