/- For all tokens: where they are no more than the law itself counts, ArgsOf by the program answers as ArgsOf by the specification, writes into no argument, shares no memory with it, and owns its answer; beyond that count the law asks nothing. No condition beside. -/
import Derived.Test.YtemglcdglnjakaaRows
import Derived.Test.YtemglcdglnjakaaMxD
import Derived.Test.YtemglcdglnjakaaLwH
import Derived.Test.YtemglcdglnjakaaLiO
import Derived.WalkKit
import Derived.ProofKit
import Derived.OpenShut
import Derived.ShutString
import Derived.ChangeOld
import Derived.Below
namespace Go.Proofs.Ytemglcdglnjakaa.fnExactArgsOf
open Go.ChangeShapes Go.WideShapes Go.ChangeAt Go.RowKit
open Go.ChangeMaps (open_string shut_string)
set_option linter.unusedVariables false

theorem own : ownKnob Try.prog.godebug = none := by kernel_rfl
theorem laidOut : laidOutB Try.prog = true := by kernel_rfl

set_option maxHeartbeats 16000000 in
theorem walk (a : Option Addr) (len cap : Nat) (ts : List Tk) (w : World) (ht : IsT w a len ts) : Calls Try.prog 4 #[.slice a len cap] w fun e w' => e = .returned (.bool true) ∧ Below w.heap.size w w' := by
  have hl := ht.hlen
  subst hl
  have SZ := hide (szTokS_L a ts.length cap 1048576 ts w (by omega) rfl ht.max ht.each ht.rd)
  by_cases hbig : ¬ ts.length + szL ts ≤ 1048576
  · clear ht
    go_enter Try.func4, Try.ntmps4
    go_wp2_with fail
    refine (unhide SZ).mono ?_
    rintro r w1 ⟨rfl | ⟨h1, _⟩, hb1⟩
    · have B1 := hide hb1
      clear hb1
      go_wp2
      go_ret
      exact ⟨rfl, unhide B1⟩
    · exact absurd h1 hbig
  have hle : ts.length + szL ts ≤ 1048576 := by omega
  have hl : ts.length ≤ 1048576 := by omega
  have TO := hide (fun wr (h : Below w.heap.size w wr) => toTokS_any a ts.length cap ts wr rfl hl (ht.rd.later h))
  have SP := hide (fun (b : Option Addr) (c : Nat) (wr : World) h => argS ts b c wr hl h)
  have hzz : ∀ i, i < ts.length → (tAt ts i).s.size ≤ 1048576 := fun i hi => by have := szL_at1 ts i hi; omega
  have PI := hide (fun (b : Option Addr) (c : Nat) (wr : World) (hc : ts.length ≤ c ∧ c ≤ maxLen) h => argI ts hzz b c wr hl hc.1 hc.2 h)
  clear hzz
  have EQ := hide (fun (b c : Option Addr) (n m : Nat) (wr : World) h1 h2 => eqTokS_big b c ts.length n m ts wr rfl (by omega) h1 h2)
  have MT := hide (fun (v : Value) (B : Nat) (wr : World) h => markTokS_K v ts B 1 wr (by omega) (by omega) h)
  have hag : (agA ts).length ≤ 1048577 := by
    unfold agA
    split
    · simp
    · have := agS_len ts []
      omega
  have hrw : ∀ i, i < (agA ts).length → (rAt (agA ts) i).length ≤ 1048576 := by
    unfold agA
    split
    · intro i hi; simp at hi
    · intro i hi
      exact agS_row ts [] 1048576 (by simp; omega) i hi
  have hps := posR_le (agA ts) 1 1048576 hrw (agA ts).length (Nat.le_refl _)
  have hpb : posR (agA ts) 1 (agA ts).length ≤ 70368744177000 := by omega
  generalize hO : agA ts = O at *
  have EQR := hide (fun (b c : Option Addr) (n m : Nat) (wr : World) h1 h2 => eqRR_same (q1 := true) (q2 := true) b c n m O wr (by omega) (fun i hi => by have := hrw i hi; omega) h1 h2)
  have MR := hide (fun (v : Value) (vs : List Value) (B : Nat) (wr : World) hB h => markRR_any v O vs B 1 wr (by omega) hB hpb (by omega) h)
  have HR := hide (fun (b : Option Addr) (c : Nat) (qs : List (List Tk)) (wr : World) h1 h2 h3 => heldRR_any (q := true) b c O qs 1 wr (by omega) hpb (by omega) h1 h2 h3)
  have hm1 : ¬ ((posR O 1 O.length : Nat) : Int) < 0 := by omega
  have ek : ((1 + 3 * ts.length : Nat) : Int) = 1 + 3 * (ts.length : Int) := by omega
  have bk : ¬ ((1 + 3 * ts.length : Nat) : Int) < 0 := by omega
  clear hps hpb hrw hag hbig ek ht
  generalize ((posR O 1 O.length : Nat) : Int) = mm at *
  have hm2 : decide (mm < 0) = false := decide_eq_false hm1
  generalize hkk : ((1 + 3 * ts.length : Nat) : Int) = kk at *
  have bk2 : decide (kk < 0) = false := decide_eq_false bk
  generalize hzz : (1048576 : Int) - (ts.length : Int) - (szL ts : Int) = zz at *
  have hz1 : ¬ zz < 0 := by omega
  have hz2 : decide (zz < 0) = false := decide_eq_false hz1
  have HLE := hide hle
  clear hle hl hzz
  go_enter Try.func4, Try.ntmps4
  go_wp2_with fail
  refine (unhide SZ).mono ?_
  rintro r w1 ⟨h1, hb1⟩
  have B1 := hide hb1
  clear hb1 SZ
  rcases h1 with rfl | ⟨_, rfl⟩
  · go_wp2
    go_ret
    exact ⟨rfl, unhide B1⟩
  have X1 := hide (unhide TO w1 (unhide B1))
  go_wp2_with fail
  refine (unhide X1).mono ?_
  rintro r w2 ⟨v2, rfl, ho2, hb2⟩
  obtain ⟨a2, c2, rfl, hr2⟩ := ho2.rd
  have B2 := hide ((unhide B1).trans (hb2.mono (unhide B1).size))
  have X2 := hide (unhide SP a2 c2 w2 hr2)
  clear ho2 hb2 hr2 X1 B1 SP
  go_wp2_with fail
  refine (unhide X2).mono ?_
  rintro r w3 ⟨v3, vs3, rfl, ho3, hb3⟩
  obtain ⟨a3, c3, rfl⟩ := ho3.form
  have B3 := hide ((unhide B2).trans (hb3.mono (unhide B2).size))
  have R3 := hide (fun wr (h : Below w3.heap.size w3 wr) => ho3.rd.later h)
  have X3 := hide (unhide TO w3 (unhide B3))
  clear ho3 hb3 X2 B2
  go_wp2_with fail
  refine (unhide X3).mono ?_
  rintro r w4 ⟨v4, rfl, ho4, hb4⟩
  obtain ⟨a4, c4, rfl, hr4⟩ := ho4.rd
  have C4 := hide hb4
  have B4 := hide ((unhide B3).trans (hb4.mono (unhide B3).size))
  have O4 := hide ho4
  have S34 := hide hb4.size
  have X4LT := hide (fun g (hg : (Value.slice a4 ts.length c4).ownBlock = some g) => (ho4.lt hg).2)
  have X4 := hide (unhide PI a4 c4 w4 ho4.caps hr4)
  clear ho4 hb4 hr4 X3
  go_wp2_with fail
  refine (unhide X4).mono ?_
  rintro r w5 ⟨v5, vs5, rfl, ho5, hb5⟩
  obtain ⟨a5, c5, rfl⟩ := ho5.form
  have D5 := hide hb5
  have S45 := hide hb5.size
  have C5 := hide ((unhide C4).trans (hb5.mono (unhide C4).size))
  have B5 := hide ((unhide B3).trans ((unhide C5).mono (unhide B3).size))
  have O5 := hide ho5
  have P4 := hide ((unhide O4).later hb5)
  have X5 := hide (unhide EQR a5 a3 c5 c3 w5 ho5.rd (unhide R3 w5 (unhide C5)))
  clear ho5 hb5 X4 O4
  go_wp2_with fail
  refine (unhide X5).mono ?_
  rintro r w6 ⟨rfl, hb6⟩
  have C6 := hide ((unhide C5).trans (hb6.mono (unhide C5).size))
  have B6 := hide ((unhide B5).trans (hb6.mono (unhide B5).size))
  have O6 := hide ((unhide O5).later hb6)
  have P6 := hide ((unhide P4).later hb6)
  have X6 := hide (unhide TO w6 (unhide B6))
  have D6 := hide ((unhide D5).trans (hb6.mono (unhide D5).size))
  clear hb6 X5 O5 P4 C5 B5 D5
  go_wp2_with fail
  refine (unhide X6).mono ?_
  rintro r w7 ⟨v7, rfl, ho7, hb7⟩
  obtain ⟨a7, c7, rfl, hr7⟩ := ho7.rd
  obtain ⟨z4, y4, e4, hz4⟩ := ((unhide P6).later hb7).rd
  have C7 := hide ((unhide C6).trans (hb7.mono (unhide C6).size))
  have B7 := hide ((unhide B6).trans (hb7.mono (unhide B6).size))
  have O7 := hide ((unhide O6).later hb7)
  have P7 := hide ((unhide P6).later hb7)
  have D7 := hide ((unhide D6).trans (hb7.mono (unhide D6).size))
  have X7 := hide (unhide EQ a4 a7 c4 c7 w7 (by cases e4; exact hz4) hr7)
  clear hb7 ho7 hr7 X6 O6 P6 C6 B6 D6 EQ hz4 e4
  go_wp2_with fail
  refine (unhide X7).mono ?_
  rintro r w8 ⟨rfl, hb8⟩
  have C8 := hide ((unhide C7).trans (hb8.mono (unhide C7).size))
  have O8 := hide ((unhide O7).later hb8)
  have P8 := hide ((unhide P7).later hb8)
  have D8 := hide ((unhide D7).trans (hb8.mono (unhide D7).size))
  have X8 := hide (unhide MT _ w3.heap.size w8 (unhide P8))
  clear hb8 X7 O7 P7 C7 D7 MT
  go_wp2_with fail
  refine (unhide X8).mono ?_
  rintro r w9 ⟨rfl, ho9, hg9⟩
  have C9 := hide ((unhide C8).grown hg9 (unhide C8).size (fun g hg => ((unhide P8).lt hg).1))
  have O9 := hide ((unhide O8).keep (fun g hg => hg9.block g (World.ownsRow.lt (unhide O8).row g hg).2 (fun e => by
      have h1 := (World.ownsRow.lt (unhide O8).row g hg).1
      have h2 := unhide X4LT g e.symm
      omega)) (fun i hi g hg => hg9.block g (((unhide O8).own i hi).lt hg).2 (fun e => by
      have h1 := (((unhide O8).own i hi).lt hg).1
      have h2 := unhide X4LT g e.symm
      omega)))
  have S9 := hide (show w4.heap.size ≤ w9.heap.size from Nat.le_trans (unhide D8).size hg9.size)
  have X9 := hide (unhide EQR a5 a3 c5 c3 w9 (unhide O9).rd (unhide R3 w9 (unhide C9)))
  clear ho9 hg9 X8 O8 P8 C8 X4LT D8
  go_wp2_with fail
  refine (unhide X9).mono ?_
  rintro r w10 ⟨rfl, hb10⟩
  have C10 := hide ((unhide C9).trans (hb10.mono (unhide C9).size))
  have O10 := hide ((unhide O9).later hb10)
  have S10 := hide (show w4.heap.size ≤ w10.heap.size from Nat.le_trans (unhide S9) hb10.size)
  have X10 := hide (unhide MR _ vs5 w4.heap.size w10 (unhide S10) (unhide O10))
  clear hb10 X9 O9 C9 MR S10
  go_wp2_with fail
  refine (unhide X10).mono ?_
  rintro r w11 ⟨rfl, qs, hM⟩
  have C11 := hide ((unhide C10).trans (hM.bel.mono (unhide S34)))
  have QL := hide hM.ql
  have QD := hide hM.done
  have R11 := hide (fun wr (h : Below w11.heap.size w11 wr) => hM.own.rd.later h)
  have X11 := hide (unhide HR a5 c5 qs w11 hM.ql hM.done hM.own.rd)
  clear hM X10 O10 C10
  go_wp2_with fail
  refine (unhide X11).mono ?_
  rintro r w12 ⟨rfl, hb12⟩
  have D12 := hide hb12
  have C12 := hide ((unhide C11).trans (hb12.mono (unhide C11).size))
  have B12 := hide ((unhide B3).trans ((unhide C12).mono (unhide B3).size))
  have X12 := hide (unhide TO w12 (unhide B12))
  clear hb12 X11 C11 TO
  go_wp2_with fail
  refine (unhide X12).mono ?_
  rintro r w13 ⟨v13, rfl, ho13, hb13⟩
  obtain ⟨a13, c13, rfl, hr13⟩ := ho13.rd
  have D13 := hide ((unhide D12).trans (hb13.mono (unhide D12).size))
  have C13 := hide ((unhide C12).trans (hb13.mono (unhide C12).size))
  have X13 := hide (unhide PI a13 c13 w13 ho13.caps hr13)
  clear ho13 hr13 hb13 X12 D12 C12 PI
  go_wp2_with fail
  refine (unhide X13).mono ?_
  rintro r w14 ⟨v14, vs14, rfl, ho14, hb14⟩
  obtain ⟨a14, c14, rfl⟩ := ho14.form
  have D14 := hide ((unhide D13).trans (hb14.mono (unhide D13).size))
  have C14 := hide ((unhide C13).trans (hb14.mono (unhide C13).size))
  have X14 := hide (unhide EQR a14 a3 c14 c3 w14 ho14.rd (unhide R3 w14 (unhide C14)))
  clear ho14 hb14 X13 D13 C13 EQR R3
  go_wp2_with fail
  refine (unhide X14).mono ?_
  rintro r w15 ⟨rfl, hb15⟩
  have D15 := hide ((unhide D14).trans (hb15.mono (unhide D14).size))
  have C15 := hide ((unhide C14).trans (hb15.mono (unhide C14).size))
  have X15 := hide (unhide HR a5 c5 qs w15 (unhide QL) (unhide QD) (unhide R11 w15 (unhide D15)))
  clear hb15 X14 D14 C14 HR R11
  go_wp2_with fail
  refine (unhide X15).mono ?_
  rintro r w16 ⟨rfl, hb16⟩
  have C16 := hide ((unhide C15).trans (hb16.mono (unhide C15).size))
  have B16 := hide ((unhide B3).trans ((unhide C16).mono (unhide B3).size))
  clear hb16 X15
  go_wp2
  go_ret
  exact ⟨rfl, unhide B16⟩

set_option maxRecDepth 100000 in
theorem lifted (os : Os) (started : os.Started) (H : Type) (enc : TypeId × Value → H) :
    ReturnsInHanded {} Try.checked os 4 .any (Rows.fnExactArgsOfSpec.pre6 enc Try.prog Try.f4 Rows.fnExactArgsOfRow.domain false) (Rows.fnExactArgsOfSpec.post enc Try.prog Try.f4 false true false false) := by
  refine returnsInHanded_of_change (C := Try.checked) own started (by kernel_rfl) Try.func4
    (ChangeSpec.witness6 (enc := enc) (C := Try.checked) false ⟨#[], #[.slice none 0 0], []⟩ 8 (by kernel_rfl) (by kernel_rfl) (by kernel_rfl) (by kernel_rfl)) ?_
  intro W base args ds gs before hval0 hW hcnd _
  have hval : ∀ (j : Nat) t v, Try.f4.params[j]? = some t → args[j]? = some v → Value.okWide Try.prog W .any base t v := hval0
  have hW' := hW
  obtain ⟨p, q, hA0, hV, rfl, hfz, hnd⟩ := hW
  have hA : DataW.TrodAll enc Try.prog W 0 (fun _ => true) true Try.f4.params.toList args.toList ds p := hA0
  rw [Try.params4] at hA hval
  obtain ⟨v0, vs0, d0, ds0, p0, q0, hargs, rfl, rfl, h0, r0⟩ := trodAll_cons hA
  obtain ⟨rfl, rfl, rfl⟩ := trodAll_nil r0
  obtain rfl : args = #[v0] := by cases args; simp_all
  obtain ⟨rfl, rfl⟩ := trodVars_none hV
  have k0 := h0
  have lt0 : ∀ x ∈ p0, x.block < W.heap.size := by obtain ⟨m, hm⟩ := k0; exact DataW.trod_lt m _ _ _ hm
  obtain ⟨a0, len0, cap0, z0, rfl, w0⟩ := open_tks (hval 0 22 v0 rfl rfl) h0
  clear hA0 hval0
  refine (walk a0 len0 cap0 z0 W w0).mono fun e W' ⟨he, bel⟩ => ?_
  subst he
  exact ⟨_, rfl, _, _, _, [], _, [], hW', trodAll_mk1 (shut_bool Try.underlying4 _), (trodAll_cons_mk (Below.trod laidOut (by kernel_rfl) (of_decide_eq_true (by kernel_rfl)) k0 bel lt0) trodAll_mk0), rfl, bel.frame _, fun h => by cases h⟩

theorem over : Rows.fnExactArgsOfRow.holds Try.pinned (OpenSpec.ofChange Rows.fnExactArgsOfSpec) :=
  OpenClaim.holds_of_wide 4 Try.f4 rfl rfl rfl rfl rfl rfl rfl ⟨rfl, rfl, rfl, rfl, rfl⟩ rfl rfl rfl rfl rfl (by kernel_rfl) Try.func4 (by kernel_rfl)
    (of_decide_eq_true (by kernel_rfl)) (by unfold Func.isWrapper; first | (rw [if_pos (by decide +kernel)]; kernel_rfl) | (rw [if_neg (by decide +kernel)]; exact ⟨rfl, rfl⟩))
    (fun os started H enc _ => lifted os started H enc)

theorem proved : Rows.FnExactArgsOfSaid := over
end Go.Proofs.Ytemglcdglnjakaa.fnExactArgsOf

namespace Go.Proofs.Ytemglcdglnjakaa
theorem fnExactArgsOf_holds : Rows.FnExactArgsOfSaid := fnExactArgsOf.proved
#print axioms fnExactArgsOf_holds
end Go.Proofs.Ytemglcdglnjakaa
