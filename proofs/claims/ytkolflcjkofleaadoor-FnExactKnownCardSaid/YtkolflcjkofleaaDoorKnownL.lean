/- For every term the program's Known answers as the model's and writes into no argument: the law FnExactKnown returns true at every argument (where the term holds more than 1048576 letters and parts the law itself answers true); the condition is what the card ties: the tables opWords and regWords are as the text of the program lays them. -/
import Derived.Test.YtkolflcjkofleaaDoorRows
import Derived.Test.YtkolflcjkofleaaDoorTxA
import Derived.Test.YtkolflcjkofleaaDoorTxB
import Derived.Test.YtkolflcjkofleaaDoorTxC
import Derived.Test.YtkolflcjkofleaaDoorTxD
import Derived.Test.YtkolflcjkofleaaDoorTxF
import Derived.Test.YtkolflcjkofleaaDoorTxG
import Derived.Test.YtkolflcjkofleaaDoorTie
import Derived.Test.YtkolflcjkofleaaDoorCards
import Derived.SevenTiedAt
import Derived.Lay
import Derived.MakeChecks
import Derived.OpenVars
import Derived.WalkKit
import Derived.ProofKit
import Derived.OpenShut
import Derived.ShutString
import Derived.ChangeOld
import Derived.Below
namespace Go.Proofs.YtkolflcjkofleaaDoor.fnExactKnown
open Go.ChangeShapes Go.WideShapes Go.ChangeAt Go.RowKit
open Go.ChangeMaps (open_string shut_string)
set_option linter.unusedVariables false
set_option maxRecDepth 8000

set_option maxHeartbeats 2000000 in
theorem walk (e : Ex) (b : Option Addr) (cap : Nat) (w : World) (hr : RdX w 0 e b) (hf : Fit e) (ht : TabK w) : Calls Tryd.prog 7 #[.agg (e.cs b cap)] w fun r w' => r = .returned (.bool true) ∧ Below w.heap.size w w' := by
  have B0 := hide (below_new w (.cells (e.cs b cap) 44))
  have SZ := hide (szX_any e b cap 1048576 _ (hr.later (unhide B0)) hf (by omega) (by omega))
  have R0 := hide (hr.later (unhide B0))
  have TB := hide (fun wr (h : Below w.heap.size w wr) => ht.next h)
  obtain ⟨x0, x1, x2, x3⟩ := box4 w e b cap 44
  have hgE : (w.alloc (.cells (e.cs b cap) 44)).heap[w.heap.size]? = some (.cells (e.cs b cap) 44 (0, 0)) := Array.getElem?_push_size
  have xl : w.heap.size < (w.alloc (.cells (e.cs b cap) 44)).heap.size := by simp
  obtain ⟨W, hW⟩ : ∃ W, w.alloc (.cells (e.cs b cap) 44) = W := ⟨_, rfl⟩
  rw [hW] at B0 SZ R0 x0 x1 x2 x3 xl hgE
  have HG := hide hgE
  clear hgE
  have Y0 := hide (fun w1 (hb : Below W.heap.size W w1) => (hb.cell (p := ⟨w.heap.size, 0, none⟩) xl).trans x0)
  have Y1 := hide (fun w1 (hb : Below W.heap.size W w1) => (hb.cell (p := ⟨w.heap.size, 1, none⟩) xl).trans x1)
  have Y2 := hide (fun w1 (hb : Below W.heap.size W w1) => (hb.cell (p := ⟨w.heap.size, 2, none⟩) xl).trans x2)
  have Y3 := hide (fun w1 (hb : Below W.heap.size W w1) => (hb.cell (p := ⟨w.heap.size, 3, none⟩) xl).trans x3)
  have TT := hide (fun (h : e.sz ≤ 1048576) wr (hr : RdX wr 0 e b) => toX_any e b cap wr hr h)
  have OS := hide (fun (h : e.sz ≤ 1048576) wr c cp (hr : RdX wr 0 e c) => knownS_any e c cp wr hr h)
  have OI := hide (fun (h : e.sz ≤ 1048576) wr c cp (hr : RdX wr 0 e c) ht => knownI_any e c cp wr hr h ht)
  have EQ := hide (fun (h : e.sz ≤ 1048576) wr c d cp cq (h1 : RdX wr 0 e c) (h2 : RdX wr 0 e d) => eqX_same e c d cp cq wr h1 h2 h)
  have RN := hide (fun wr B c (h : NewX wr B e c) => h.rd.lower (Nat.zero_le _) _ _)
  have RL := hide (fun wr w2 c (h : RdX wr 0 e c) (hb : Below wr.heap.size wr w2) => h.later hb)
  clear ht hr hf xl
  generalize hz : e.sz = z at *
  unfold InR at OS OI
  generalize (knownA e).getD 0 = zz at *
  generalize (knownA e).isSome = q at *
  unfold Ex.cs at SZ TT OS OI EQ hW HG ⊢
  generalize e.k = ek at *
  generalize e.n = en at *
  generalize e.s = es at *
  generalize e.l.length = ll at *
  go_enter Tryd.func7, Tryd.ntmps7
  go_wp2_with fail
  refine (unhide SZ).mono ?_
  rintro r w1 ⟨rfl, hb1⟩
  have B1 := hide hb1
  have A1 := hide ((unhide B0).trans (hb1.mono (unhide B0).size))
  have y0 := unhide Y0 w1 hb1
  have y1 := unhide Y1 w1 hb1
  have y2 := unhide Y2 w1 hb1
  have y3 := unhide Y3 w1 hb1
  have R1 := hide (unhide RL _ _ _ (unhide R0) hb1)
  clear hb1 SZ x0 x1 x2 x3 R0
  unfold lessX
  by_cases hneg : (1048576 : Int) - (z : Int) < 0
  · rw [if_pos hneg]
    go_wp2
    go_ret
    exact ⟨rfl, unhide A1⟩
  · rw [if_neg hneg]
    have hz1 : z ≤ 1048576 := by omega
    have T2 := hide (unhide TT hz1)
    have S2 := hide (unhide OS hz1)
    have I2 := hide (unhide OI hz1)
    have E2 := hide (unhide EQ hz1)
    clear TT OS OI EQ
    go_wp2_with fail
    refine (unhide T2 _ (unhide R1)).mono ?_
    rintro r w2 ⟨c2, cp2, rfl, n2, hb2⟩
    have B2 := hide ((unhide B1).trans (hb2.mono (unhide B1).size))
    have A2 := hide ((unhide A1).trans (hb2.mono (unhide A1).size))
    have R2 := hide (unhide RL _ _ _ (unhide R1) hb2)
    have S3 := hide (unhide S2 w2 c2 cp2 (unhide RN _ _ _ n2))
    clear hb2 n2 R1 B1 A1 y0 y1 y2 y3
    go_wp2_with fail
    refine (unhide S3).mono ?_
    rintro r w3 ⟨rfl, hb3⟩
    have B3 := hide ((unhide B2).trans (hb3.mono (unhide B2).size))
    have A3 := hide ((unhide A2).trans (hb3.mono (unhide A2).size))
    have R3 := hide (unhide RL _ _ _ (unhide R2) hb3)
    have y0 := unhide Y0 w3 (unhide B3)
    have y1 := unhide Y1 w3 (unhide B3)
    have y2 := unhide Y2 w3 (unhide B3)
    have y3 := unhide Y3 w3 (unhide B3)
    clear hb3 S3 R2 B2 A2
    go_wp2_with fail
    refine (unhide T2 _ (unhide R3)).mono ?_
    rintro r w4 ⟨c4, cp4, rfl, n4, hb4⟩
    have B4 := hide ((unhide B3).trans (hb4.mono (unhide B3).size))
    have A4 := hide ((unhide A3).trans (hb4.mono (unhide A3).size))
    have R4 := hide (unhide RL _ _ _ (unhide R3) hb4)
    have X4 := hide (unhide RN _ _ _ n4)
    clear hb4 R3 B3 A3 y0 y1 y2 y3
    have hb5 := below_new w4 (.cells #[.int .i64 ek, .int .i64 en, .string es, .slice c4 ll cp4] 26)
    have hg5 : (w4.alloc (.cells #[.int .i64 ek, .int .i64 en, .string es, .slice c4 ll cp4] 26)).heap[w4.heap.size]? = some (.cells #[.int .i64 ek, .int .i64 en, .string es, .slice c4 ll cp4] 26 (0, 0)) := Array.getElem?_push_size
    obtain ⟨w5, hw5⟩ : ∃ w5, w4.alloc (.cells #[.int .i64 ek, .int .i64 en, .string es, .slice c4 ll cp4] 26) = w5 := ⟨_, rfl⟩
    rw [hw5] at hb5 hg5
    have xl5 : w4.heap.size < w5.heap.size := (Array.getElem?_eq_some_iff.1 hg5).1
    have z0 := Lib.cell_of_heap hg5 0
    have z1 := Lib.cell_of_heap hg5 1
    have z2 := Lib.cell_of_heap hg5 2
    have z3 := Lib.cell_of_heap hg5 3
    have B5 := hide ((unhide B4).trans (hb5.mono (unhide B4).size))
    have A5 := hide ((unhide A4).trans (hb5.mono (unhide A4).size))
    have R5 := hide (unhide RL _ _ _ (unhide R4) hb5)
    have X5 := hide (unhide RL _ _ _ (unhide X4) hb5)
    have I5 := hide (unhide I2 w5 c4 cp4 (unhide X5) (unhide TB w5 (unhide A5)))
    have G5 := hide hg5
    clear hb5 hg5 R4 X4 B4 A4 n4
    go_wp2_with fail
    refine (unhide I5).mono ?_
    rintro r w6 ⟨rfl, hb6⟩
    have B6 := hide ((unhide B5).trans (hb6.mono (unhide B5).size))
    have A6 := hide ((unhide A5).trans (hb6.mono (unhide A5).size))
    have R6 := hide (unhide RL _ _ _ (unhide R5) hb6)
    have X6 := hide (unhide RL _ _ _ (unhide X5) hb6)
    have D0 := hide (show (fun w' => w'.heap[w4.heap.size]? = some (.cells #[.int .i64 ek, .int .i64 en, .string es, .slice c4 ll cp4] 26 (0, 0)) ∧ w'.heap[w.heap.size]? = some (.cells #[.int .i64 ek, .int .i64 en, .string es, .slice b ll cap] 44 (0, 0))) w6.drew from ⟨row_keep (row_keep (unhide G5) hb6) below_drew, row_keep (row_keep (unhide HG) (unhide B6)) below_drew⟩)
    clear hb6 I5 R5 X5 B5 A5 z0 z1 z2 z3 hw5 xl5 G5
    go_wp2_with fail
    refine wp_region_held_drew (S := fun w' => w'.heap[w4.heap.size]? = some (.cells #[.int .i64 ek, .int .i64 en, .string es, .slice c4 ll cp4] 26 (0, 0)) ∧ w'.heap[w.heap.size]? = some (.cells #[.int .i64 ek, .int .i64 en, .string es, .slice b ll cap] 44 (0, 0))) (by kernel_rfl) (unhide D0) (fun hS => ?_)
    have HS := hide hS
    clear hS
    refine wpAnyH_take (i := 0) (v := .agg #[.int .i64 ek, .int .i64 en, .string es, .slice c4 ll cp4]) rfl (by kernel_rfl) (by kernel_rfl) (by kernel_rfl) (fun _ _ _ h => h) (yields_loadG (by rfl) 26 _ rfl w4.heap.size rfl 26 #[.int .i64 ek, .int .i64 en, .string es, .slice c4 ll cp4] _ (fun w h => h.1) Tryd.underlying26 rfl (by kernel_rfl)) (unhide HS) ?_
    go_simp
    refine wpAnyH_take (i := 1) (v := .agg #[.int .i64 ek, .int .i64 en, .string es, .slice b ll cap]) rfl (by kernel_rfl) (by kernel_rfl) (by kernel_rfl) (fun _ _ _ h => h) (yields_loadG (by rfl) 44 _ rfl w.heap.size rfl 44 #[.int .i64 ek, .int .i64 en, .string es, .slice b ll cap] _ (fun w h => h.2) Tryd.underlying44 rfl (by kernel_rfl)) (unhide HS) ?_
    go_simp
    refine wpAnyH_ready (rs := [2]) (by kernel_rfl) (by simp) ?_
    refine AllReadyH.cons rfl (fun K2 hK => ?_) AllReadyH.nil
    go_simp
    refine (unhide T2 _ (unhide RL _ _ _ (unhide R6) below_drew)).mono ?_
    rintro r w7 ⟨c7, cp7, rfl, n7, hb7⟩
    refine hK.out _ _ (⟨row_keep (unhide D0).1 hb7, row_keep (unhide D0).2 hb7⟩) (fun hS => ?_)
    clear HS
    have HS := hide hS
    clear hS hK K2
    have A7 := hide ((unhide A6).trans ((below_drew (w := w6)).mono (unhide A6).size |>.trans (hb7.mono (unhide A6).size)))
    have E7 := hide (unhide E2 w7 c4 c7 cp4 cp7 (unhide RL _ _ _ (unhide RL _ _ _ (unhide X6) below_drew) hb7) (unhide RN _ _ _ n7))
    have H7 := hide (unhide HS)
    clear hb7 n7 R6 X6 B6 A6 D0
    refine wpAnyH_ready (rs := [3]) (by kernel_rfl) (by simp) ?_
    refine AllReadyH.cons rfl (fun K2 hK => ?_) AllReadyH.nil
    go_simp
    refine (unhide E7).mono ?_
    rintro r w8 ⟨rfl, hb8⟩
    refine hK.out _ _ (⟨row_keep (unhide H7).1 hb8, row_keep (unhide H7).2 hb8⟩) (fun hS => ?_)
    clear HS
    have HS := hide hS
    clear hS hK K2
    have A8 := hide ((unhide A7).trans (hb8.mono (unhide A7).size))
    clear hb8 E7 A7 H7
    refine wpAnyH_take (i := 4) (v := .bool false) rfl (by kernel_rfl) (by kernel_rfl) (by kernel_rfl) (fun _ _ _ h => h) (Or.inl ⟨by rfl, fun w hc => ?_⟩) (unhide HS) ?_
    · clear hc; go_simp
    go_simp
    refine wpAnyH_done (by kernel_rfl) ?_ _
    go_wp2
    go_ret
    exact ⟨rfl, unhide A8⟩

set_option maxRecDepth 100000 in
theorem lifted (os : Os) (started : os.Started) (H : Type) (enc : TypeId × Value → H) :
    ReturnsInHanded {} Tryd.checked os 7 .any (fun w args => (Rows.fnExactKnownSpec.pre enc Tryd.prog Tryd.f7 [] false w args ∧ laidMetH Tryd.prog Rows.fnExactKnownRow.laid w) ∧ sizedMet enc Tryd.prog Tryd.f7 (OpenSpec.ofChange Rows.fnExactKnownSpec) false w args)
      (Rows.fnExactKnownSpec.post enc Tryd.prog Tryd.f7 false true false false) := by
  refine returnsInHanded_of_change_and (C := Tryd.checked) (X := fun w _ => laidMetH Tryd.prog Rows.fnExactKnownRow.laid w) (fun _ _ _ hh h => h.of_heap hh) own started (by kernel_rfl) Tryd.func7
    (ChangeSpec.witness_shaped (enc := enc) (C := Tryd.checked) (os := os) (X := fun w _ => laidMetH Tryd.prog Rows.fnExactKnownRow.laid w) false (World.laidAll Tryd.prog os Rows.fnExactKnownRow.laid) #[.agg #[.int .i64 0, .int .i64 0, .string ByteArray.empty, .slice none 0 0]] 8 (World.laidAll_os _ _ _)
      (World.shaped_of_ZipB (by kernel_rfl) (by kernel_rfl)) (by kernel_rfl) (by kernel_rfl) (by kernel_rfl)
      (by rw [MakeChecks.laidMetH_plain _ _ _ (by kernel_rfl)]; exact laidMet_laidAll _ (by kernel_rfl) (by kernel_rfl))) ?_
  intro W base args ds gs before hval0 hW _ _ hL _
  have hval : ∀ (j : Nat) t v, Tryd.f7.params[j]? = some t → args[j]? = some v → Value.okWide Tryd.prog W .any base t v := hval0
  have hW' := hW
  obtain ⟨p, q, hA0, hV, rfl, hfz, hnd⟩ := hW
  have hA : DataW.TrodAll enc Tryd.prog W 0 (fun _ => true) true Tryd.f7.params.toList args.toList ds p := hA0
  rw [Tryd.params7] at hA hval
  obtain ⟨v0, vs0, d0, ds0, p0, q0, hargs, rfl, rfl, h0, r0⟩ := trodAll_cons hA
  obtain ⟨rfl, rfl, rfl⟩ := trodAll_nil r0
  obtain rfl : args = #[v0] := by cases args; simp_all
  have kV := hV
  obtain ⟨gv, tv, cv, fv, dv, pv, gu, tu, cu, fu, du, pu, rfl, _⟩ := trodVars_two hV
  have k0 := h0
  have lt0 : ∀ x ∈ p0, x.block < W.heap.size := by obtain ⟨m, hm⟩ := k0; exact DataW.trod_lt m _ _ _ hm
  obtain ⟨o0, b0, c0, rfl, g0, f0⟩ := open_ex (hval 0 44 v0 rfl rfl) h0
  clear hA0 hval0
  refine (walk o0 b0 c0 W g0 f0 (tab_of_laid hL)).mono fun e W' ⟨he, bel⟩ => ?_
  subst he
  exact ⟨_, rfl, _, _, _, [], _, _, hW', trodAll_mk1 (shut_bool Tryd.underlying4 _), (trodAll_cons_mk (Below.trod laidOut (by kernel_rfl) (of_decide_eq_true (by kernel_rfl)) k0 bel lt0) trodAll_mk0), bel.trodVars laidOut (by kernel_rfl) kV, bel.frame _, fun h => by cases h⟩

theorem proved : Rows.FnExactKnownSaid :=
  OpenClaim.holds_of_wide 7 Tryd.f7 rfl rfl rfl rfl rfl rfl rfl ⟨rfl, rfl, rfl, rfl, rfl⟩ rfl rfl rfl rfl rfl (by kernel_rfl) Tryd.func7 (by kernel_rfl)
    (of_decide_eq_true (by kernel_rfl)) (by unfold Func.isWrapper; first | (rw [if_pos (by decide +kernel)]; kernel_rfl) | (rw [if_neg (by decide +kernel)]; exact ⟨rfl, rfl⟩))
    (fun os started H enc _ => lifted os started H enc)
end Go.Proofs.YtkolflcjkofleaaDoor.fnExactKnown

namespace Go.Proofs.YtkolflcjkofleaaDoor
theorem fnExactKnown_holds : Rows.FnExactKnownCardSaid :=
  Claim7.holds_tied_plain_at .later [] [.data, .data] true (true, "bb0bc1b0fb6fad9ee741dbe94bc6d927b19996896d356a68a721711bb659e7ab") true
    fnExactKnown.proved (fun _ h => by cases h) (by kernel_rfl) (fun _ h => by cases h) fnExactKnown_row_tie rfl ⟨rfl, rfl⟩ (by kernel_rfl) rfl
    (fun f fn hf hfn => by
      obtain rfl : f = 7 := Option.some.inj ((show Tryd.prog.funcNamed "loop.example/g00329/laws.FnExactKnown" = some 7 by kernel_rfl).symm.trans hf) |>.symm
      obtain rfl : fn = Tryd.f7 := (Option.some.inj (Tryd.func7.symm.trans hfn)).symm
      exact ⟨by kernel_rfl, fun j t ht => by
        rw [Tryd.params7] at ht
        have hm : t ∈ [44] := by simpa using Array.mem_of_getElem? ht
        have hall : ([44].all fun u => !Tryd.prog.wantsStandIn u) = true := by kernel_rfl
        exact (show Tryd.prog.wantsStandIn t = false by simpa using List.all_eq_true.1 hall t hm)⟩)
    (by kernel_rfl)
#print axioms fnExactKnown_holds
end Go.Proofs.YtkolflcjkofleaaDoor
