/- For every text the program's ParseExpr answers as the model's, every part of the term too, and its answer owns its memory, behind another call too: the law FnExactParseExpr returns true at every argument (where the text is longer than 1048576 it answers true with no call of the program); the tables and sentinels that the card lists are as the text of the program and of the library lays them. -/
import Derived.Test.YthgbpofcfmnpdaaGreatDoorRows
import Derived.Test.YthgbpofcfmnpdaaGreatDoorTxI
import Derived.Lib.SmallJoins
import Derived.Test.YthgbpofcfmnpdaaGreatDoorTie
import Derived.Test.YthgbpofcfmnpdaaGreatDoorCards
import Derived.SevenTiedAt
import Derived.Lay
import Derived.MakeChecks
import Derived.OpenVars
import Derived.WalkKit
import Derived.ProofKit
import Derived.OpenShut
import Derived.ShutString
import Derived.ChangeOld
import Derived.Below
import Derived.LaidMore
namespace Go.Proofs.YthgbpofcfmnpdaaGreatDoor.fnExactParseExpr
open Go.ChangeShapes Go.WideShapes Go.ChangeAt Go.RowKit
open Go.ChangeMaps (open_string shut_string)
set_option linter.unusedVariables false
set_option maxRecDepth 8000

set_option maxHeartbeats 8000000 in
theorem walk (s : ByteArray) (hs : s.size ≤ maxLen) (w : World) (he : EnvX w) : Calls Tryz.prog 4 #[.string s] w fun e w' => e = .returned (.bool true) ∧ Below w.heap.size w w' := by
  clear hs
  by_cases hbig : 1048576 < s.size
  · go_enter Tryz.func4, Tryz.ntmps4
    go_wp2
    go_ret
    exact ⟨rfl, Below.refl _ _⟩
  have hz : s.size ≤ 1048576 := by omega
  have EV := hide (fun wr (h : Below w.heap.size w wr) => he.next h)
  have P0 := hide ((parseS_any s w hz (by have := lex_len s; omega)).mono (fun r w' h => PaR.all h))
  have PI := hide (fun wr (h : Below w.heap.size w wr) => (parseI_any s wr hz (unhide EV wr h).env (unhide EV wr h).x.g).mono (fun r w' h => PaR.all h))
  have SM := pr_small s
  have CT := ct_sz (prE s)
  have EQ := hide (fun (a b : Option Addr) (c1 c2 : Nat) (wr : World) (h1 : RdX wr 0 (prE s) a) (h2 : RdX wr 0 (prE s) b) => eqX_same (prE s) a b c1 c2 wr h1 h2 (by omega))
  have MA := hide (fun (a : Option Addr) (cap B C : Nat) (wr : World) (h : HalfX wr B C (prE s) a) (hB : B ≤ wr.heap.size) => markX_keep (prE s) a cap 1 B C wr h hB (by omega) (by omega))
  have HE := hide (fun (a : Option Addr) (cap : Nat) (y : Ex) (wr : World) (hm : MkX (prE s) 1 y) (hr : RdX wr 0 y a) => heldX_any (prE s) a cap 1 y wr hm hr (by omega) (by omega) (prE s).k (prE s).n (prE s).s)
  have hm0 : (0 : Int) ≤ ((1 + 3 * (prE s).ct : Nat) : Int) := by omega
  generalize ((1 + 3 * (prE s).ct : Nat) : Int) = mm at *
  generalize prB s = pb at *
  generalize prE s = E at *
  have hm1 : ¬ mm < 0 := by omega
  unfold Ex.cs at P0 PI EQ MA
  generalize hek : E.k = ek at *
  generalize hen : E.n = en at *
  generalize hes : E.s = es at *
  generalize hel : E.l.length = el at *
  clear SM CT he hm0 hek hen hes hel
  cases pb
  all_goals
    go_enter Tryz.func4, Tryz.ntmps4
    go_wp2_with fail
    refine (unhide P0).mono ?_
    rintro r w1 ⟨c, cp, rfl, hn1, hb1⟩
    have B1 := hide hb1
    have N1 := hide hn1.half
    have hb2 := below_new w1 (.cells #[.int .i64 ek, .int .i64 en, .string es, .slice c el cp] 26)
    have hg2 : (w1.alloc (.cells #[.int .i64 ek, .int .i64 en, .string es, .slice c el cp] 26)).heap[w1.heap.size]? = some (.cells #[.int .i64 ek, .int .i64 en, .string es, .slice c el cp] 26 (0, 0)) := Array.getElem?_push_size
    have B2 := hide ((unhide B1).trans (hb2.mono (unhide B1).size))
    have N2 := hide ((unhide N1).later hb2)
    have G2 := hide hg2
    have P2 := hide (unhide PI _ (unhide B2))
    have hl2 : w1.heap.size < (w1.alloc (.cells #[.int .i64 ek, .int .i64 en, .string es, .slice c el cp] 26)).heap.size := by simp
    clear hn1 hb1 hb2 hg2 B1 N1 P0
    go_wp2_with fail
    generalize w1.alloc (.cells #[.int .i64 ek, .int .i64 en, .string es, .slice c el cp] 26) = w2 at *
    generalize w1.heap.size = g0 at *
    refine (unhide P2).mono ?_
    rintro r w3 ⟨d, dp, rfl, hn3, hb3⟩
    have B3 := hide ((unhide B2).trans (hb3.mono (unhide B2).size))
    have N3 := hide ((unhide N2).upto (Nat.le_of_lt hl2))
    have N3 := hide ((unhide N3).later hb3)
    have M3 := hide hn3.half
    have G3 := hide (row_keep (unhide G2) hb3)
    have hz3 := hb3.size
    have hw2 := (unhide B2).size
    have hb4 := below_new w3 (.cells #[.int .i64 ek, .int .i64 en, .string es, .slice d el dp] 26)
    have hg4 : (w3.alloc (.cells #[.int .i64 ek, .int .i64 en, .string es, .slice d el dp] 26)).heap[w3.heap.size]? = some (.cells #[.int .i64 ek, .int .i64 en, .string es, .slice d el dp] 26 (0, 0)) := Array.getElem?_push_size
    have B4 := hide ((unhide B3).trans (hb4.mono (unhide B3).size))
    have N4 := hide ((unhide N3).later hb4)
    have M4 := hide ((unhide M3).later hb4)
    have G4 := hide (row_keep (unhide G3) hb4)
    have K4 := hide hg4
    have hl4 : w3.heap.size < (w3.alloc (.cells #[.int .i64 ek, .int .i64 en, .string es, .slice d el dp] 26)).heap.size := by simp
    clear hn3 hb3 hb4 hg4 B2 B3 N2 N3 M3 G2 G3 P2
    go_wp2_with (first | (refine wpList_load_row rfl 26 _ rfl g0 rfl 26 #[.int .i64 ek, .int .i64 en, .string es, .slice c el cp] (0, 0) _ (unhide G4) Tryz.underlying26 rfl (by kernel_rfl) ?_) | (refine wpList_load_row rfl 26 _ rfl w3.heap.size rfl 26 #[.int .i64 ek, .int .i64 en, .string es, .slice d el dp] (0, 0) _ (unhide K4) Tryz.underlying26 rfl (by kernel_rfl) ?_))
    generalize w3.alloc (.cells #[.int .i64 ek, .int .i64 en, .string es, .slice d el dp] 26) = w4 at *
    generalize w3.heap.size = g1 at *
    refine (unhide EQ d c dp cp w4 (unhide M4).rd (unhide N4).rd).mono ?_
    rintro r w5 ⟨rfl, hb5⟩
    have hl5 : g1 < w5.heap.size := Nat.lt_of_lt_of_le hl4 hb5.size
    have B5 := hide ((unhide B4).trans (hb5.mono (unhide B4).size))
    have N5 := hide ((unhide N4).later hb5)
    have M5 := hide ((unhide M4).later hb5)
    have G5 := hide (row_keep (unhide G4) hb5)
    have K5 := hide (row_keep (unhide K4) hb5)
    clear hb5 B4 N4 M4 G4 K4
    go_wp2_with (first | (refine wpList_load_row rfl 26 _ rfl g1 rfl 26 #[.int .i64 ek, .int .i64 en, .string es, .slice d el dp] (0, 0) _ (unhide K5) Tryz.underlying26 rfl (by kernel_rfl) ?_))
    refine (unhide MA d dp _ _ w5 (unhide M5) (by omega)).mono ?_
    rintro r w6 ⟨y, rfl, hmk, hh6, hb6, hk6⟩
    have B6 := hide ((unhide B5).trans (hb6.mono hw2))
    have N6 := hide ((unhide N5).below hb6)
    have M6 := hide hh6
    have G6 := hide ((hb6.block _ hl2).trans (unhide G5))
    have K6 := hide ((hk6 _ (Nat.le_refl _) hl5).trans (unhide K5))
    have MK := hide hmk
    clear hmk hh6 hb6 hk6 B5 N5 M5 G5 K5
    go_wp2_with (first | (refine wpList_load_row rfl 26 _ rfl g1 rfl 26 #[.int .i64 ek, .int .i64 en, .string es, .slice d el dp] (0, 0) _ (unhide K6) Tryz.underlying26 rfl (by kernel_rfl) ?_))
    refine (unhide HE d dp y w6 (unhide MK) (unhide M6).rd).mono ?_
    rintro r w7 ⟨rfl, hb7⟩
    have B7 := hide ((unhide B6).trans (hb7.mono (unhide B6).size))
    have N7 := hide ((unhide N6).later hb7)
    have M7 := hide ((unhide M6).later hb7)
    have G7 := hide (row_keep (unhide G6) hb7)
    have K7 := hide (row_keep (unhide K6) hb7)
    clear hb7 B6 N6 M6 G6 K6
    have P7 := hide (unhide PI _ (unhide B7))
    go_wp2_with fail
    refine (unhide P7).mono ?_
    rintro r w8 ⟨f, fp, rfl, hn8, hb8⟩
    have F8 := hide hn8.half
    clear hn8
    have B8 := hide ((unhide B7).trans (hb8.mono (unhide B7).size))
    have N8 := hide ((unhide N7).later hb8)
    have M8 := hide ((unhide M7).later hb8)
    have G8 := hide (row_keep (unhide G7) hb8)
    have K8 := hide (row_keep (unhide K7) hb8)
    clear hb8 B7 N7 M7 G7 K7
    have hb9 := below_new w8 (.cells #[.int .i64 ek, .int .i64 en, .string es, .slice f el fp] 26)
    have hg9 : (w8.alloc (.cells #[.int .i64 ek, .int .i64 en, .string es, .slice f el fp] 26)).heap[w8.heap.size]? = some (.cells #[.int .i64 ek, .int .i64 en, .string es, .slice f el fp] 26 (0, 0)) := Array.getElem?_push_size
    have F9 := hide ((unhide F8).later hb9)
    have H9 := hide hg9
    clear hg9 F8 P7
    have B9 := hide ((unhide B8).trans (hb9.mono (unhide B8).size))
    have N9 := hide ((unhide N8).later hb9)
    have M9 := hide ((unhide M8).later hb9)
    have G9 := hide (row_keep (unhide G8) hb9)
    have K9 := hide (row_keep (unhide K8) hb9)
    clear hb9 B8 N8 M8 G8 K8
    go_wp2_with (first | (refine wpList_load_row rfl 26 _ rfl w8.heap.size rfl 26 #[.int .i64 ek, .int .i64 en, .string es, .slice f el fp] (0, 0) _ (unhide H9) Tryz.underlying26 rfl (by kernel_rfl) ?_) | (refine wpList_load_row rfl 26 _ rfl g0 rfl 26 #[.int .i64 ek, .int .i64 en, .string es, .slice c el cp] (0, 0) _ (unhide G9) Tryz.underlying26 rfl (by kernel_rfl) ?_))
    generalize w8.alloc (.cells #[.int .i64 ek, .int .i64 en, .string es, .slice f el fp] 26) = w9 at *
    generalize w8.heap.size = g2 at *
    refine (unhide EQ f c fp cp w9 (unhide F9).rd (unhide N9).rd).mono ?_
    rintro r w10 ⟨rfl, hb10⟩
    clear F9 H9
    have B10 := hide ((unhide B9).trans (hb10.mono (unhide B9).size))
    have N10 := hide ((unhide N9).later hb10)
    have M10 := hide ((unhide M9).later hb10)
    have G10 := hide (row_keep (unhide G9) hb10)
    have K10 := hide (row_keep (unhide K9) hb10)
    clear hb10 B9 N9 M9 G9 K9
    go_wp2_with (first | (refine wpList_load_row rfl 26 _ rfl g1 rfl 26 #[.int .i64 ek, .int .i64 en, .string es, .slice d el dp] (0, 0) _ (unhide K10) Tryz.underlying26 rfl (by kernel_rfl) ?_))
    refine (unhide HE d dp y w10 (unhide MK) (unhide M10).rd).mono ?_
    rintro r w11 ⟨rfl, hb11⟩
    have B11 := hide ((unhide B10).trans (hb11.mono (unhide B10).size))
    have N11 := hide ((unhide N10).later hb11)
    have M11 := hide ((unhide M10).later hb11)
    have G11 := hide (row_keep (unhide G10) hb11)
    have K11 := hide (row_keep (unhide K10) hb11)
    clear hb11 B10 N10 M10 G10 K10
    go_wp2
    go_ret
    exact ⟨rfl, unhide B11⟩

theorem door_met (os : Os) (args : Array Value) : laidMetH Tryz.prog Rows.fnExactParseExprRow.laid ((World.doorLaid Tryz.prog 400 os).forCall (fun _ _ => 0) ⟨#[], args, []⟩).memory :=
  laidMetH_of_parts3 (fuel := 8) (laidMet_of_run' 8 (by kernel_rfl) (by kernel_rfl)) (by kernel_rfl) (by kernel_rfl)
set_option maxRecDepth 100000 in
theorem lifted (os : Os) (started : os.Started) (H : Type) (enc : TypeId × Value → H) :
    ReturnsInHanded {} Tryz.checked os 4 .any (fun w args => (Rows.fnExactParseExprSpec.pre enc Tryz.prog Tryz.f4 [] false w args ∧ laidMetH Tryz.prog Rows.fnExactParseExprRow.laid w) ∧ sizedMet enc Tryz.prog Tryz.f4 (OpenSpec.ofChange Rows.fnExactParseExprSpec) false w args)
      (Rows.fnExactParseExprSpec.post enc Tryz.prog Tryz.f4 false true false false) := by
  refine returnsInHanded_of_change_and (C := Tryz.checked) (X := fun w _ => laidMetH Tryz.prog Rows.fnExactParseExprRow.laid w) (fun _ _ _ hh h => h.of_heap hh) own started (by kernel_rfl) Tryz.func4
    (ChangeSpec.witness_shaped (enc := enc) (C := Tryz.checked) (os := os) (X := fun w _ => laidMetH Tryz.prog Rows.fnExactParseExprRow.laid w) false (World.doorLaid Tryz.prog 400 os) #[.string ⟨#[]⟩] 8 rfl (World.shaped_of_RefB (by kernel_rfl) (by kernel_rfl)) (by kernel_rfl) (by kernel_rfl) (by kernel_rfl) (door_met os _)) ?_
  intro W base args ds gs before hval0 hW _ _ hL _
  have hval : ∀ (j : Nat) t v, Tryz.f4.params[j]? = some t → args[j]? = some v → Value.okWide Tryz.prog W .any base t v := hval0
  have hW' := hW
  obtain ⟨p, q, hA0, hV, rfl, hfz, hnd⟩ := hW
  have hA : DataW.TrodAll enc Tryz.prog W 0 (fun _ => true) true Tryz.f4.params.toList args.toList ds p := hA0
  rw [Tryz.params4] at hA hval
  obtain ⟨v0, vs0, d0, ds0, p0, q0, hargs, rfl, rfl, h0, r0⟩ := trodAll_cons hA
  obtain ⟨rfl, rfl, rfl⟩ := trodAll_nil r0
  obtain rfl : args = #[v0] := by cases args; simp_all
  have kV := hV
  obtain ⟨dv, du, dt, rfl⟩ := vars_three hV
  have k0 := h0
  have lt0 : ∀ x ∈ p0, x.block < W.heap.size := by obtain ⟨m, hm⟩ := k0; exact DataW.trod_lt m _ _ _ hm
  obtain ⟨s0, rfl, _, _, w0⟩ := open_string Tryz.underlying9 (hval 0 9 v0 rfl rfl) h0
  clear hA0 hval0
  refine (walk s0 w0 W  (envx_of hL)).mono fun e W' ⟨he, bel⟩ => ?_
  subst he
  exact ⟨_, rfl, _, _, _, [], _, _, hW', trodAll_mk1 (shut_bool Tryz.underlying4 _), (trodAll_cons_mk (Below.trod laidOut (by kernel_rfl) (of_decide_eq_true (by kernel_rfl)) k0 bel lt0) trodAll_mk0), bel.trodVars laidOut (by kernel_rfl) kV, bel.frame _, fun h => by cases h⟩

theorem proved : Rows.FnExactParseExprSaid :=
  OpenClaim.holds_of_wide 4 Tryz.f4 rfl rfl rfl rfl rfl rfl rfl ⟨rfl, rfl, rfl, rfl, rfl⟩ rfl rfl rfl rfl rfl (by kernel_rfl) Tryz.func4 (by kernel_rfl)
    (of_decide_eq_true (by kernel_rfl)) (by unfold Func.isWrapper; first | (rw [if_pos (by decide +kernel)]; kernel_rfl) | (rw [if_neg (by decide +kernel)]; exact ⟨rfl, rfl⟩))
    (fun os started H enc _ => lifted os started H enc)
end Go.Proofs.YthgbpofcfmnpdaaGreatDoor.fnExactParseExpr

namespace Go.Proofs.YthgbpofcfmnpdaaGreatDoor
theorem fnExactParseExpr_holds : Rows.FnExactParseExprCardSaid :=
  Claim7.holds_tied_plain_at .later [] [.data, .data, .data, .sentinel, .sentinel, .data, .data, .data] true (true, "292b365e4439423362ab4d1d59144656ed0c93249f7fb994bb08e14fbc2a9775") true
    fnExactParseExpr.proved (fun _ h => by cases h) (by kernel_rfl) (fun _ h => by cases h) fnExactParseExpr_row_tie rfl ⟨rfl, rfl⟩ (by kernel_rfl) rfl
    (fun f fn hf hfn => by
      obtain rfl : f = 4 := Option.some.inj ((show Tryz.prog.funcNamed "loop.example/g00329/laws.FnExactParseExpr" = some 4 by kernel_rfl).symm.trans hf) |>.symm
      obtain rfl : fn = Tryz.f4 := (Option.some.inj (Tryz.func4.symm.trans hfn)).symm
      exact ⟨by kernel_rfl, fun j t ht => by
        rw [Tryz.params4] at ht
        have hm : t ∈ [9] := by simpa using Array.mem_of_getElem? ht
        have hall : ([9].all fun u => !Tryz.prog.wantsStandIn u) = true := by kernel_rfl
        exact (show Tryz.prog.wantsStandIn t = false by simpa using List.all_eq_true.1 hall t hm)⟩)
    (by kernel_rfl)
#print axioms fnExactParseExpr_holds
end Go.Proofs.YthgbpofcfmnpdaaGreatDoor
