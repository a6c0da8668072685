/- For every text the program's ParseLine answers as the model's, every part of the line too (what cannot be read gives up by a panic inside, which is caught inside), and its answer owns its memory, behind another call too: the law FnExactParseLine returns true at every argument (where the text is longer than 1048576 it answers true with no call of the program); the tables opWords, regWords, signs, dotWords, formsBehindAt, the library's tables and its two sentinels stand as listed. Conditions: none beside what the card ties. -/
import Derived.Test.YtjnblcgekpgkoaaGreatDoorRows
import Derived.Test.YtjnblcgekpgkoaaGreatDoorTpF
import Derived.Lib.SmallJoins
import Derived.Test.YtjnblcgekpgkoaaGreatDoorTie
import Derived.Test.YtjnblcgekpgkoaaGreatDoorCards
import Derived.SevenTiedAt
import Derived.Lay
import Derived.MakeChecks
import Derived.OpenVars
import Derived.WalkKit
import Derived.ProofKit
import Derived.OpenShut
import Derived.ShutString
import Derived.ChangeOld
import Derived.Below
import Derived.LaidMore
namespace Go.Proofs.YtjnblcgekpgkoaaGreatDoor.fnExactParseLine
open Go.ChangeShapes Go.WideShapes Go.ChangeAt Go.RowKit
open Go.ChangeMaps (open_string shut_string)
set_option linter.unusedVariables false
set_option maxRecDepth 8000

set_option maxHeartbeats 16000000 in
theorem walk (s : ByteArray) (hs : s.size ≤ maxLen) (w : World) (he : TabR w) : Calls Tryz.prog 5 #[.string s] w fun e w' => e = .returned (.bool true) ∧ Below w.heap.size w w' := by
  clear hs
  by_cases hbig : 1048576 < s.size
  · go_enter Tryz.func5, Tryz.ntmps5
    go_wp2
    go_ret
    exact ⟨rfl, Below.refl _ _⟩
  have hz : s.size ≤ 1048576 := by omega
  obtain ⟨z1, z2, z3⟩ := pnX_small s
  have P0 := hide ((plS s w hz).mono (fun r w' h => OfR.all h))
  have PI := hide (fun wr (h : Below w.heap.size w wr) => (plI s wr hz (he.later h)).mono (fun r w' h => PnL.all h))
  have EQ := hide (fun (p q : La) (wr : World) (h1 : RdL wr (pnX s) p) (h2 : RdL wr (pnX s) q) => eqL_same (pnX s) p q wr h1 h2 z1 z2)
  have MA := hide (fun (p : La) (B : Nat) (F1 F2 F3 : List Nat) (wr : World) a1 a2 a3 hn hF hB => mkL_any (pnX s) p B F1 F2 F3 wr a1 a2 a3 hn hF hB z3)
  have HE := hide (fun (p : La) (y1 y2 y3 : Ex) (F1 F2 F3 : List Nat) (wr : World) h => hdL_any (pnX s) p y1 y2 y3 F1 F2 F3 wr h z3)
  have CO := hide (fun p => cs_one (pnX s) p)
  have SO := hide (fun p => szLc (pnX s) p)
  have SH := hide (fun p => (show (#[.int .i64 0, .string ⟨#[]⟩, .int .i64 0, .int .i64 0, .int .i64 0, .int .i64 0, .int .i64 0, .string ⟨#[]⟩, .slice none 0 0, .int .i64 0, .int .i64 0, .int .i64 0, .int .i64 0, .string ⟨#[]⟩, .slice none 0 0, .int .i64 0, .slice none 0 0] : Array Value).size = ((pnX s).cs p).size from rfl))
  generalize pnX s = x at *
  generalize pnB s = b at *
  generalize x.cs = f at *
  clear z1 z2 z3 he
  have hm1 : ¬ ((x.ct : Nat) : Int) < 0 := by omega
  generalize ((x.ct : Nat) : Int) = mm at *
  have hm2 : decide (mm < 0) = false := decide_eq_false hm1
  cases b
  all_goals
    go_enter Tryz.func5, Tryz.ntmps5
    go_wp2_with fail
    refine (uh P0).mono ?_
    rintro r w1 ⟨p, rfl, hr1, hb1⟩
    have hb2 := below_new w1 (.cells (f p) 30)
    have B2 := hide (hb1.trans (hb2.mono hb1.size))
    have G2 := hide (show (w1.alloc (.cells (f p) 30)).heap[w1.heap.size]? = some (.cells (f p) 30 (0, 0)) from Array.getElem?_push_size)
    have R2 := hide (hr1.later hb2)
    have X := hide (uh PI _ (uh B2))
    clear hr1 hb1 hb2 P0
    go_wp2_with ((with_reducible show wpList _ _ _ (⟨_, .store _ _ _, _, _, _, _⟩ :: _) _ _); refine storeM rfl 30 _ _ rfl (f p) rfl rfl _ (uh SO p) (uh SH p) (uh CO p) ?_)
    generalize (w1.alloc (.cells (f p) 30)) = w2 at *
    generalize w1.heap.size = g0 at *
    refine (uh X).mono ?_
    rintro r w3 ⟨q, rfl, hn3, hb3⟩
    obtain ⟨F1, F2, F3, a1, a2, a3, nd, ge⟩ := hn3
    have hb4 := below_new w3 (.cells (f q) 30)
    have C3 := hide hb3
    have C4 := hide (hb3.trans (hb4.mono hb3.size))
    have L1 := OwX.lt _ _ _ a1
    have L2 := OwX.lt _ _ _ a2
    have L3 := OwX.lt _ _ _ a3
    have OUT := hide (show w3.heap.size ∉ F1 ++ (F2 ++ F3) from fun h => by
      simp only [List.mem_append] at h
      rcases h with h | h | h
      · have := L1 _ h; omega
      · have := L2 _ h; omega
      · have := L3 _ h; omega)
    have G4 := hide (show (w3.alloc (.cells (f q) 30)).heap[w3.heap.size]? = some (.cells (f q) 30 (0, 0)) from Array.getElem?_push_size)
    have D4 := hide (row_keep (uh G2) (uh C4))
    have R4 := hide ((uh R2).later (uh C4))
    have A1 := hide (a1.later hb4)
    have A2 := hide (a2.later hb4)
    have A3 := hide (a3.later hb4)
    have ND := hide nd
    have GE := hide ge
    have X4 := hide (uh EQ q p (w3.alloc (.cells (f q) 30)) ⟨OwX.rd _ _ _ (fun _ _ => Nat.zero_le _) (uh A1), OwX.rd _ _ _ (fun _ _ => Nat.zero_le _) (uh A2), OwX.rd _ _ _ (fun _ _ => Nat.zero_le _) (uh A3)⟩ (uh R4))
    have Z4 := hide (uh C4).size
    clear hb3 hb4 a1 a2 a3 nd ge L1 L2 L3 X C3 R4
    go_wp2_with (first | ((with_reducible show wpList _ _ _ (⟨_, .store _ _ _, _, _, _, _⟩ :: _) _ _); refine storeM rfl 30 _ _ rfl (f q) rfl rfl _ (uh SO q) (uh SH q) (uh CO q) ?_) | ((with_reducible show wpList _ _ _ (⟨_, .load _ _, _, _, _, _⟩ :: _) _ _); refine wpList_load_row rfl 30 _ rfl w3.heap.size rfl 30 (f q) (0, 0) _ (uh G4) Tryz.underlying30 rfl (uh SO q) ?_) | ((with_reducible show wpList _ _ _ (⟨_, .load _ _, _, _, _, _⟩ :: _) _ _); refine wpList_load_row rfl 30 _ rfl g0 rfl 30 (f p) (0, 0) _ (uh D4) Tryz.underlying30 rfl (uh SO p) ?_))
    generalize (w3.alloc (.cells (f q) 30)) = w4 at *
    generalize w3.heap.size = g1 at *
    refine (uh X4).mono ?_
    rintro r w5 ⟨rfl, hb5⟩
    have C5 := hide ((uh C4).trans (hb5.mono (uh Z4)))
    have G5 := hide (row_keep (uh G4) hb5)
    have Z5 := hide (Nat.le_trans (uh Z4) hb5.size)
    have MX := hide (uh MA q w2.heap.size F1 F2 F3 w5 ((uh A1).later hb5) ((uh A2).later hb5) ((uh A3).later hb5) (uh ND) (uh GE) (uh Z5))
    have L5 := hide (show g1 < w5.heap.size from (Array.getElem?_eq_some_iff.1 (uh G5)).1)
    clear hb5 X4 A1 A2 A3 G4 D4 C4 Z4 MA ND GE
    go_wp2_with ((with_reducible show wpList _ _ _ (⟨_, .load _ _, _, _, _, _⟩ :: _) _ _); refine wpList_load_row rfl 30 _ rfl g1 rfl 30 (f q) (0, 0) _ (uh G5) Tryz.underlying30 rfl (uh SO q) ?_)
    refine (uh MX).mono ?_
    rintro r w6 ⟨y1, y2, y3, rfl, hm, hb6, hk6⟩
    have C6 := hide ((uh C5).trans hb6)
    have G6 := hide ((hk6 g1 (uh L5) (uh OUT)).trans (uh G5))
    have M6 := hide hm
    have X6 := hide (uh HE q y1 y2 y3 F1 F2 F3 w6 hm)
    have Z6 := hide (Nat.le_trans (uh Z5) hb6.size)
    clear hm hb6 hk6 MX G5 C5 Z5 L5 OUT
    go_wp2_with ((with_reducible show wpList _ _ _ (⟨_, .load _ _, _, _, _, _⟩ :: _) _ _); refine wpList_load_row rfl 30 _ rfl g1 rfl 30 (f q) (0, 0) _ (uh G6) Tryz.underlying30 rfl (uh SO q) ?_)
    refine (uh X6).mono ?_
    rintro r w7 ⟨rfl, hb7⟩
    have C7 := hide ((uh C6).trans (hb7.mono (uh Z6)))
    have G7 := hide (row_keep (uh G6) hb7)
    have M7 := hide ((uh M6).later hb7)
    have B7 := hide ((uh B2).trans ((uh C7).mono (uh B2).size))
    have X7 := hide (uh PI w7 (uh B7))
    have Z7 := hide (Nat.le_trans (uh Z6) hb7.size)
    clear hb7 X6 C6 G6 M6 Z6 PI
    go_wp2_with fail
    refine (uh X7).mono ?_
    rintro r w8 ⟨q2, rfl, hn8, hb8⟩
    have hb9 := below_new w8 (.cells (f q2) 30)
    have hb89 := hb8.trans (hb9.mono hb8.size)
    have C9 := hide ((uh C7).trans (hb89.mono (uh Z7)))
    have G9 := hide (row_keep (uh G7) hb89)
    have M9 := hide ((uh M7).later hb89)
    have H9 := hide (show (w8.alloc (.cells (f q2) 30)).heap[w8.heap.size]? = some (.cells (f q2) 30 (0, 0)) from Array.getElem?_push_size)
    have D9 := hide (row_keep (uh G2) (uh C9))
    have X9 := hide (uh EQ q2 p (w8.alloc (.cells (f q2) 30)) (hn8.rd.later hb9) ((uh R2).later (uh C9)))
    have Z9 := hide (Nat.le_trans (uh Z7) hb89.size)
    clear hb8 hb9 hb89 hn8 X7 C7 G7 M7 Z7 EQ
    go_wp2_with (first | ((with_reducible show wpList _ _ _ (⟨_, .store _ _ _, _, _, _, _⟩ :: _) _ _); refine storeM rfl 30 _ _ rfl (f q2) rfl rfl _ (uh SO q2) (uh SH q2) (uh CO q2) ?_) | ((with_reducible show wpList _ _ _ (⟨_, .load _ _, _, _, _, _⟩ :: _) _ _); refine wpList_load_row rfl 30 _ rfl w8.heap.size rfl 30 (f q2) (0, 0) _ (uh H9) Tryz.underlying30 rfl (uh SO q2) ?_) | ((with_reducible show wpList _ _ _ (⟨_, .load _ _, _, _, _, _⟩ :: _) _ _); refine wpList_load_row rfl 30 _ rfl g0 rfl 30 (f p) (0, 0) _ (uh D9) Tryz.underlying30 rfl (uh SO p) ?_))
    generalize (w8.alloc (.cells (f q2) 30)) = w9 at *
    generalize w8.heap.size = g2 at *
    refine (uh X9).mono ?_
    rintro r w10 ⟨rfl, hb10⟩
    have C10 := hide ((uh C9).trans (hb10.mono (uh Z9)))
    have G10 := hide (row_keep (uh G9) hb10)
    have X10 := hide (uh HE q y1 y2 y3 F1 F2 F3 w10 ((uh M9).later hb10))
    have Z10 := hide (Nat.le_trans (uh Z9) hb10.size)
    clear hb10 X9 C9 G9 M9 H9 D9 Z9 HE
    go_wp2_with ((with_reducible show wpList _ _ _ (⟨_, .load _ _, _, _, _, _⟩ :: _) _ _); refine wpList_load_row rfl 30 _ rfl g1 rfl 30 (f q) (0, 0) _ (uh G10) Tryz.underlying30 rfl (uh SO q) ?_)
    refine (uh X10).mono ?_
    rintro r w11 ⟨rfl, hb11⟩
    have B11 := hide ((uh B2).trans (((uh C10).trans (hb11.mono (uh Z10))).mono (uh B2).size))
    clear hb11 X10 C10 G10 Z10
    go_wp2
    go_ret
    exact ⟨rfl, uh B11⟩

theorem door_met (os : Os) (args : Array Value) : laidMetH Tryz.prog Rows.fnExactParseLineRow.laid ((World.doorLaid Tryz.prog 400 os).forCall (fun _ _ => 0) ⟨#[], args, []⟩).memory :=
  laidMetH_of_parts3 (fuel := 8) (laidMet_of_run' 8 (by kernel_rfl) (by kernel_rfl)) (by kernel_rfl) (by kernel_rfl)
set_option maxRecDepth 100000 in
theorem lifted (os : Os) (started : os.Started) (H : Type) (enc : TypeId × Value → H) :
    ReturnsInHanded {} Tryz.checked os 5 .any (fun w args => (Rows.fnExactParseLineSpec.pre enc Tryz.prog Tryz.f5 [] false w args ∧ laidMetH Tryz.prog Rows.fnExactParseLineRow.laid w) ∧ sizedMet enc Tryz.prog Tryz.f5 (OpenSpec.ofChange Rows.fnExactParseLineSpec) false w args)
      (Rows.fnExactParseLineSpec.post enc Tryz.prog Tryz.f5 false true false false) := by
  refine returnsInHanded_of_change_and (C := Tryz.checked) (X := fun w _ => laidMetH Tryz.prog Rows.fnExactParseLineRow.laid w) (fun _ _ _ hh h => h.of_heap hh) own started (by kernel_rfl) Tryz.func5
    (ChangeSpec.witness_shaped (enc := enc) (C := Tryz.checked) (os := os) (X := fun w _ => laidMetH Tryz.prog Rows.fnExactParseLineRow.laid w) false (World.doorLaid Tryz.prog 400 os) #[.string ⟨#[]⟩] 8 rfl (World.shaped_of_RefB (by kernel_rfl) (by kernel_rfl)) (by kernel_rfl) (by kernel_rfl) (by kernel_rfl) (door_met os _)) ?_
  intro W base args ds gs before hval0 hW _ _ hL _
  have hval : ∀ (j : Nat) t v, Tryz.f5.params[j]? = some t → args[j]? = some v → Value.okWide Tryz.prog W .any base t v := hval0
  have hW' := hW
  obtain ⟨p, q, hA0, hV, rfl, hfz, hnd⟩ := hW
  have hA : DataW.TrodAll enc Tryz.prog W 0 (fun _ => true) true Tryz.f5.params.toList args.toList ds p := hA0
  rw [Tryz.params5] at hA hval
  obtain ⟨v0, vs0, d0, ds0, p0, q0, hargs, rfl, rfl, h0, r0⟩ := trodAll_cons hA
  obtain ⟨rfl, rfl, rfl⟩ := trodAll_nil r0
  obtain rfl : args = #[v0] := by cases args; simp_all
  have kV := hV
  obtain ⟨dv, du, dt, ds, dr, rfl⟩ := varsL_5 hV
  have k0 := h0
  have lt0 : ∀ x ∈ p0, x.block < W.heap.size := by obtain ⟨m, hm⟩ := k0; exact DataW.trod_lt m _ _ _ hm
  obtain ⟨s0, rfl, _, _, w0⟩ := open_string Tryz.underlying9 (hval 0 9 v0 rfl rfl) h0
  clear hA0 hval0
  refine (walk s0 w0 W  (tabr_of hL)).mono fun e W' ⟨he, bel⟩ => ?_
  subst he
  exact ⟨_, rfl, _, _, _, [], _, _, hW', trodAll_mk1 (shut_bool Tryz.underlying4 _), (trodAll_cons_mk (Below.trod laidOut (by kernel_rfl) (of_decide_eq_true (by kernel_rfl)) k0 bel lt0) trodAll_mk0), bel.trodVars laidOut (by kernel_rfl) kV, bel.frame _, fun h => by cases h⟩

theorem proved : Rows.FnExactParseLineSaid :=
  OpenClaim.holds_of_wide 5 Tryz.f5 rfl rfl rfl rfl rfl rfl rfl ⟨rfl, rfl, rfl, rfl, rfl⟩ rfl rfl rfl rfl rfl (by kernel_rfl) Tryz.func5 (by kernel_rfl)
    (of_decide_eq_true (by kernel_rfl)) (by unfold Func.isWrapper; first | (rw [if_pos (by decide +kernel)]; kernel_rfl) | (rw [if_neg (by decide +kernel)]; exact ⟨rfl, rfl⟩))
    (fun os started H enc _ => lifted os started H enc)
end Go.Proofs.YtjnblcgekpgkoaaGreatDoor.fnExactParseLine

namespace Go.Proofs.YtjnblcgekpgkoaaGreatDoor
theorem fnExactParseLine_holds : Rows.FnExactParseLineCardSaid :=
  Claim7.holds_tied_plain_at .later [] [.data, .data, .data, .sentinel, .sentinel, .data, .data, .data, .data, .data] true (true, "6915b1a5654352903017b01b7b9d4a43314dcc55d8391807e1b439549ad65152") true
    fnExactParseLine.proved (fun _ h => by cases h) (by kernel_rfl) (fun _ h => by cases h) fnExactParseLine_row_tie rfl ⟨rfl, rfl⟩ (by kernel_rfl) rfl
    (fun f fn hf hfn => by
      obtain rfl : f = 5 := Option.some.inj ((show Tryz.prog.funcNamed "loop.example/g00329/laws.FnExactParseLine" = some 5 by kernel_rfl).symm.trans hf) |>.symm
      obtain rfl : fn = Tryz.f5 := (Option.some.inj (Tryz.func5.symm.trans hfn)).symm
      exact ⟨by kernel_rfl, fun j t ht => by
        rw [Tryz.params5] at ht
        have hm : t ∈ [9] := by simpa using Array.mem_of_getElem? ht
        have hall : ([9].all fun u => !Tryz.prog.wantsStandIn u) = true := by kernel_rfl
        exact (show Tryz.prog.wantsStandIn t = false by simpa using List.all_eq_true.1 hall t hm)⟩)
    (by kernel_rfl)
#print axioms fnExactParseLine_holds
end Go.Proofs.YtjnblcgekpgkoaaGreatDoor
