/- For every slice of bytes: the program knows of the term drawn of it what the model knows, and where a number is known, it is what the term is worth with whatever bases and values are drawn beside it, if it is worth anything: the law FnKnown returns true at every argument (of more than 1048576 bytes the law itself answers true); the condition is what the card ties: the tables opWords and regWords are as the text of the program lays them. -/
import Derived.Test.YtkolflcjkofleaaDoorRows
import Derived.Test.YtkolflcjkofleaaDoorTxA
import Derived.Test.YtkolflcjkofleaaDoorTxC
import Derived.Test.YtkolflcjkofleaaDoorTxD
import Derived.Test.YtkolflcjkofleaaDoorTxF
import Derived.Test.YtkolflcjkofleaaDoorTxG
import Derived.Test.YtkolflcjkofleaaDoorTxH
import Derived.Test.YtkolflcjkofleaaDoorTxI
import Derived.Deep.CutRange
import Derived.Test.YtkolflcjkofleaaDoorTie
import Derived.Test.YtkolflcjkofleaaDoorCards
import Derived.SevenTiedAt
import Derived.Lay
import Derived.MakeChecks
import Derived.OpenVars
import Derived.WalkKit
import Derived.ProofKit
import Derived.OpenShut
import Derived.ShutString
import Derived.ChangeOld
import Derived.Below
namespace Go.Proofs.YtkolflcjkofleaaDoor.fnKnown
open Go.ChangeShapes Go.WideShapes Go.ChangeAt Go.RowKit
open Go.ChangeMaps (open_string shut_string)
set_option linter.unusedVariables false
set_option maxRecDepth 8000

set_option maxHeartbeats 16000000 in
theorem walk (a : Option Addr) (len cap : Nat) (zs : List Int) (w : World) (hrow : IsRow .u8 w a len cap zs) (ht : TabK w) : Calls Tryd.prog 4 #[.slice a len cap] w fun e w' => e = .returned (.bool true) ∧ Below w.heap.size w w' := by
  obtain ⟨xs, hl, hlc, hcm, hr⟩ := rd_of_row hrow
  clear hrow
  have hlm : len ≤ 9223372036854775807 := by unfold maxLen at hcm; omega
  have EV := hide (fun wr (h : Below w.heap.size w wr) => ht.next h)
  have RX := hide (fun wr (h : Below w.heap.size w wr) => hr.later h)
  clear ht hr
  by_cases hbig : (1048576 : Int) < (len : Int)
  · have hb1 : decide ((1048576 : Int) < (len : Int)) = true := decide_eq_true hbig
    have BG := hide (big_any a len cap w hlm)
    rw [hb1] at BG
    go_enter Tryd.func4, Tryd.ntmps4
    go_wp2_with (first | (go_at_call 10; refine (unhide BG).mono ?_; rintro e w' ⟨rfl, hw'⟩; rw [hw']; clear hw' w'))
    go_ret
    exact ⟨rfl, Below.refl _ _⟩
  have hb1 : decide ((1048576 : Int) < (len : Int)) = false := decide_eq_false hbig
  have hm : len ≤ 1048576 := by omega
  have BG := hide (big_any a len cap w hlm)
  rw [hb1] at BG
  have D1 := hide (drawKnown_any a len cap xs w hl hm (unhide RX w (Below.refl _ _)))
  have AT := hide (fun (i : Nat) (hi : i ≤ 1048576) wr h => atL_any a len cap i xs wr hl hm hi (unhide RX wr h))
  clear RX hl
  go_enter Tryd.func4, Tryd.ntmps4
  go_wp2_with (first | (go_at_call 10; refine (unhide BG).mono ?_; rintro e w' ⟨rfl, hw'⟩; rw [hw']; clear hw' w'))
  refine (unhide D1).mono ?_
  rintro e w1 ⟨x, c, cp, rfl, hsx, hnx, hb1'⟩
  have B1 := hide hb1'
  have X1 := hide hnx.half
  clear hnx hb1' D1 BG hb1
  have KI := hide (fun wr (hb : Below w.heap.size w wr) (q : RdX wr 0 x c) => knownI_any x c cp wr q (by omega) (unhide EV wr hb))
  have KS := hide (fun wr (q : RdX wr 0 x c) => knownS_any x c cp wr q (by omega))
  have WX := hide (fun bs vs wr x1 x2 x3 (h1 : bs.length = 3) (h2 : vs.length = 2) (hb : Below w.heap.size w wr) (h0 : RdX wr 0 x c) (q1 : RdN wr x1 bs) (q2 : RdU wr x2 [⟨#[103]⟩, ⟨#[104]⟩]) (q3 : RdN wr x3 vs) => worthI_any bs [⟨#[103]⟩, ⟨#[104]⟩] vs (by omega) (by omega) (by decide) x c cp x1 x2 x3 bs.length 2 vs.length wr h0 (by omega) (unhide EV wr hb) q1 q2 q3)
  have KW := hide (fun (bs vs : List Int) (n v : Int) (hk : knownA x = some n) (hw : worthA bs [⟨#[103]⟩, ⟨#[104]⟩] vs x = some v) => known_worth bs [⟨#[103]⟩, ⟨#[104]⟩] vs x hk hw)
  unfold InR at KI KS WX
  unfold Ex.cs at KI KS WX ⊢
  clear hsx EV
  obtain ⟨ko, hko⟩ : ∃ ko, knownA x = ko := ⟨_, rfl⟩
  rw [hko] at KI KS KW
  clear hko
  generalize hzk : ko.getD 0 = zk at *
  generalize hqk : ko.isSome = qk at *
  have ZK := hide (And.intro hzk hqk)
  have hz0 : qk = false → zk = 0 := fun h => by cases ko with | none => exact hzk.symm | some v => rw [← hqk] at h; cases h
  clear hzk hqk
  generalize x.k = ek at *
  generalize x.n = en at *
  generalize x.s = es at *
  generalize x.l.length = el at *
  have hbb := below_new w1 (.cells #[.int .i64 ek, .int .i64 en, .string es, .slice c el cp] 26)
  have G2 := hide (show (w1.alloc (.cells #[.int .i64 ek, .int .i64 en, .string es, .slice c el cp] 26)).heap[w1.heap.size]? = some (.cells #[.int .i64 ek, .int .i64 en, .string es, .slice c el cp] 26 (0, 0)) from Array.getElem?_push_size)
  have B2 := hide ((unhide B1).trans (hbb.mono (unhide B1).size))
  have X2 := hide ((unhide X1).later hbb)
  clear hbb B1 X1
  have A2 := hide (unhide KI _ (unhide B2) (unhide X2).rd)
  go_wp2_with (refine wpList_load_row rfl 26 _ rfl w1.heap.size rfl 26 #[.int .i64 ek, .int .i64 en, .string es, .slice c el cp] (0, 0) _ (unhide G2) Tryd.underlying26 rfl (by kernel_rfl) ?_)
  generalize w1.alloc (.cells #[.int .i64 ek, .int .i64 en, .string es, .slice c el cp] 26) = w2 at *
  generalize w1.heap.size = g0 at *
  refine (unhide A2).mono ?_
  rintro r w3 ⟨rfl, hbb⟩
  clear A2 KI
  have B3 := hide ((unhide B2).trans (hbb.mono (unhide B2).size))
  have G3 := hide (row_keep (unhide G2) hbb)
  have X3 := hide ((unhide X2).later hbb)
  clear hbb B2 G2 X2
  have A3 := hide (unhide KS w3 (unhide X3).rd)
  go_wp2_with (refine wpList_load_row rfl 26 _ rfl g0 rfl 26 #[.int .i64 ek, .int .i64 en, .string es, .slice c el cp] (0, 0) _ (unhide G3) Tryd.underlying26 rfl (by kernel_rfl) ?_)
  refine (unhide A3).mono ?_
  rintro r w4 ⟨rfl, hbb⟩
  clear A3 KS
  have B4 := hide ((unhide B3).trans (hbb.mono (unhide B3).size))
  have G4 := hide (row_keep (unhide G3) hbb)
  have X4 := hide ((unhide X3).later hbb)
  clear hbb B3 G3 X3
  go_wp2_with fail
  go_cut [8, 9] from 25 to 40 (fun v8 v9 wc => ∃ (z : Int) (q : Bool), v8 = .int .i64 z ∧ v9 = .bool q ∧ (qk = true → q = true → z = zk) ∧ Below w.heap.size w wc)
  case first =>
    rename_i J6 K6 hJ6 hM6
    have hbb := below_drew (w := w4)
    have B5 := hide ((unhide B4).trans (hbb.mono (unhide B4).size))
    have G5 := hide (row_keep (unhide G4) hbb)
    have X5 := hide ((unhide X4).later hbb)
    clear hbb B4 G4 X4
    refine wp_region_held_drew (S := fun w' => w'.heap[g0]? = some (.cells #[.int .i64 ek, .int .i64 en, .string es, .slice c el cp] 26 (0, 0))) (by kernel_rfl) (unhide G5) (fun hS => ?_)
    have HS := hide hS
    clear hS
    generalize w4.drew = w5 at *
    refine wpAnyH_take (i := 0) (v := .agg #[.int .i64 ek, .int .i64 en, .string es, .slice c el cp]) rfl (by kernel_rfl) (by kernel_rfl) (by kernel_rfl) (fun _ _ _ h => h) (yields_loadG (by rfl) 26 _ rfl g0 rfl 26 #[.int .i64 ek, .int .i64 en, .string es, .slice c el cp] _ (fun w h => h) Tryd.underlying26 rfl (by kernel_rfl)) (unhide HS) ?_
    go_simp
    refine wpAnyH_take (i := 1) (v := .slice a len cap) rfl (by kernel_rfl) (by kernel_rfl) (by kernel_rfl) (fun _ _ _ h => h) (Or.inl ⟨by rfl, fun w hc => ?_⟩) (unhide HS) ?_
    · clear hc; go_simp
    go_simp
    refine wpAnyH_take (i := 4) (v := .slice a len cap) rfl (by kernel_rfl) (by kernel_rfl) (by kernel_rfl) (fun _ _ _ h => h) (Or.inl ⟨by rfl, fun w hc => ?_⟩) (unhide HS) ?_
    · clear hc; go_simp
    go_simp
    refine wpAnyH_take (i := 8) (v := .slice a len cap) rfl (by kernel_rfl) (by kernel_rfl) (by kernel_rfl) (fun _ _ _ h => h) (Or.inl ⟨by rfl, fun w hc => ?_⟩) (unhide HS) ?_
    · clear hc; go_simp
    go_simp
    refine wpAnyH_take (i := 10) (v := .slice a len cap) rfl (by kernel_rfl) (by kernel_rfl) (by kernel_rfl) (fun _ _ _ h => h) (Or.inl ⟨by rfl, fun w hc => ?_⟩) (unhide HS) ?_
    · clear hc; go_simp
    go_simp
    refine wpAnyH_ready (rs := [2, 7]) (by kernel_rfl) (by simp) ?_
    refine AllReadyH.cons rfl (fun K2 hK => ?_) (AllReadyH.cons rfl (fun K2 hK => ?_) AllReadyH.nil)
    · go_simp
      refine (unhide AT 2 (by omega) w5 (unhide B5)).mono ?_
      rintro r wx ⟨⟨n2, hn2, rfl⟩, hwx⟩
      rw [hwx]
      clear hwx wx
      refine hK.out _ _ (unhide G5) (fun hS => ?_)
      clear HS
      have HS := hide hS
      clear hS hK K2
      have hw2 : IntKind.i64.wrap ((n2 : Int) * 250) = (n2 : Int) * 250 := by rw [IntKind.wrap_i64]; omega
      refine wpAnyH_take (i := 3) (v := .int .i64 ((n2 : Int) * 250)) rfl (by kernel_rfl) (by kernel_rfl) (by kernel_rfl) (fun _ _ _ h => h) (Or.inl ⟨by rfl, fun w hc => ?_⟩) (unhide HS) ?_
      · clear hc; go_simp
      go_simp
      clear hw2
      refine wpAnyH_ready (rs := [5, 7]) (by kernel_rfl) (by simp) ?_
      refine AllReadyH.cons rfl (fun K2 hK => ?_) (AllReadyH.cons rfl (fun K2 hK => ?_) AllReadyH.nil)
      · go_simp
        refine (unhide AT 3 (by omega) w5 (unhide B5)).mono ?_
        rintro r wx ⟨⟨n3, hn3, rfl⟩, hwx⟩
        rw [hwx]
        clear hwx wx
        refine hK.out _ _ (unhide G5) (fun hS => ?_)
        clear HS
        have HS := hide hS
        clear hS hK K2
        refine wpAnyH_ready (rs := [6, 7, 9]) (by kernel_rfl) (by simp) ?_
        refine AllReadyH.cons rfl (fun K2 hK => ?_) (AllReadyH.cons rfl (fun K2 hK => ?_) (AllReadyH.cons rfl (fun K2 hK => ?_) AllReadyH.nil))
        · go_simp
          have hbb := below_new w5 (.cells #[.int .i64 ((n2 : Int) * 250), .int .i64 (n3 : Int), .int .i64 9] 3)
          have R6 := hide (show RdN (w5.alloc (.cells #[.int .i64 ((n2 : Int) * 250), .int .i64 (n3 : Int), .int .i64 9] 3)) (some ⟨w5.heap.size, 0, none⟩) [(n2 : Int) * 250, (n3 : Int), 9] from RdN_lit w5 [(n2 : Int) * 250, (n3 : Int), 9])
          have B6 := hide ((unhide B5).trans (hbb.mono (unhide B5).size))
          have G6 := hide (row_keep (unhide G5) hbb)
          have X6 := hide ((unhide X5).later hbb)
          clear hbb B5 G5 X5
          generalize w5.alloc (.cells #[.int .i64 ((n2 : Int) * 250), .int .i64 (n3 : Int), .int .i64 9] 3) = w6 at *
          generalize w5.heap.size = ga at *
          refine hK.out _ _ (unhide G6) (fun hS => ?_)
          clear HS
          have HS := hide hS
          clear hS hK K2
          refine wpAnyH_ready (rs := [7, 9]) (by kernel_rfl) (by simp) ?_
          refine AllReadyH.cons rfl (fun K2 hK => ?_) (AllReadyH.cons rfl (fun K2 hK => ?_) AllReadyH.nil)
          · go_simp
            have hbb := below_new w6 (.cells #[.string ⟨#[103]⟩, .string ⟨#[104]⟩] 9)
            have U7 := hide (rdu_lit w6)
            have B7 := hide ((unhide B6).trans (hbb.mono (unhide B6).size))
            have G7 := hide (row_keep (unhide G6) hbb)
            have X7 := hide ((unhide X6).later hbb)
            have R7 := hide ((unhide R6).later hbb)
            clear hbb B6 G6 X6 R6
            generalize w6.alloc (.cells #[.string ⟨#[103]⟩, .string ⟨#[104]⟩] 9) = w7 at *
            generalize w6.heap.size = gb at *
            refine hK.out _ _ (unhide G7) (fun hS => ?_)
            clear HS
            have HS := hide hS
            clear hS hK K2
            refine wpAnyH_ready (rs := [9]) (by kernel_rfl) (by simp) ?_
            refine AllReadyH.cons rfl (fun K2 hK => ?_) AllReadyH.nil
            go_simp
            refine (unhide AT 4 (by omega) w7 (unhide B7)).mono ?_
            rintro r wx ⟨⟨n4, hn4, rfl⟩, hwx⟩
            rw [hwx]
            clear hwx wx
            refine hK.out _ _ (unhide G7) (fun hS => ?_)
            clear HS
            have HS := hide hS
            clear hS hK K2
            refine wpAnyH_ready (rs := [11]) (by kernel_rfl) (by simp) ?_
            refine AllReadyH.cons rfl (fun K2 hK => ?_) AllReadyH.nil
            go_simp
            refine (unhide AT 5 (by omega) w7 (unhide B7)).mono ?_
            rintro r wx ⟨⟨n5, hn5, rfl⟩, hwx⟩
            rw [hwx]
            clear hwx wx
            refine hK.out _ _ (unhide G7) (fun hS => ?_)
            clear HS
            have HS := hide hS
            clear hS hK K2
            refine wpAnyH_ready (rs := [12]) (by kernel_rfl) (by simp) ?_
            refine AllReadyH.cons rfl (fun K2 hK => ?_) AllReadyH.nil
            go_simp
            have hbb := below_new w7 (.cells #[.int .i64 (n4 : Int), .int .i64 (n5 : Int)] 3)
            have V8 := hide (show RdN (w7.alloc (.cells #[.int .i64 (n4 : Int), .int .i64 (n5 : Int)] 3)) (some ⟨w7.heap.size, 0, none⟩) [(n4 : Int), (n5 : Int)] from RdN_lit w7 [(n4 : Int), (n5 : Int)])
            have B8 := hide ((unhide B7).trans (hbb.mono (unhide B7).size))
            have G8 := hide (row_keep (unhide G7) hbb)
            have X8 := hide ((unhide X7).later hbb)
            have R8 := hide ((unhide R7).later hbb)
            have U8 := hide ((unhide U7).later hbb)
            clear hbb B7 G7 X7 R7 U7
            generalize w7.alloc (.cells #[.int .i64 (n4 : Int), .int .i64 (n5 : Int)] 3) = w8 at *
            generalize w7.heap.size = gc at *
            refine hK.out _ _ (unhide G8) (fun hS => ?_)
            clear HS
            have HS := hide hS
            clear hS hK K2
            refine wpAnyH_ready (rs := [13]) (by kernel_rfl) (by simp) ?_
            refine AllReadyH.cons rfl (fun K2 hK => ?_) AllReadyH.nil
            go_simp
            have KW1 := hide (fun n v => unhide KW [(n2 : Int) * 250, (n3 : Int), 9] [(n4 : Int), (n5 : Int)] n v)
            refine (unhide WX [(n2 : Int) * 250, (n3 : Int), 9] [(n4 : Int), (n5 : Int)] w8 (some ⟨ga, 0, none⟩) (some ⟨gb, 0, none⟩) (some ⟨gc, 0, none⟩) rfl rfl (unhide B8) (unhide X8).rd (unhide R8) (unhide U8) (unhide V8)).mono ?_
            rintro r w9 ⟨rfl, hbb⟩
            generalize worthA [(n2 : Int) * 250, (n3 : Int), 9] [⟨#[103]⟩, ⟨#[104]⟩] [(n4 : Int), (n5 : Int)] x = wo at *
            have HZ := hide (show qk = true → wo.isSome = true → wo.getD 0 = zk from fun h1 h2 => by
              obtain ⟨q1, q2⟩ := unhide ZK
              cases ko with
              | none => rw [← q2] at h1; cases h1
              | some n => cases wo with
                | none => cases h2
                | some v => rw [← q1]; exact unhide KW1 n v rfl rfl)
            clear KW1
            generalize wo.getD 0 = zw at *
            generalize wo.isSome = qw at *
            have B9 := hide ((unhide B8).trans (hbb.mono (unhide B8).size))
            have G9 := hide (row_keep (unhide G8) hbb)
            have X9 := hide ((unhide X8).later hbb)
            have R9 := hide ((unhide R8).later hbb)
            have U9 := hide ((unhide U8).later hbb)
            have V9 := hide ((unhide V8).later hbb)
            clear hbb B8 G8 X8 R8 U8 V8
            refine hK.out _ _ (unhide G9) (fun hS => ?_)
            clear HS
            have HS := hide hS
            clear hS hK K2
            refine wpAnyH_take (i := 14) (v := .tuple #[.int .i64 zw, .bool qw]) rfl (by kernel_rfl) (by kernel_rfl) (by kernel_rfl) (fun _ _ _ h => h) (Or.inl ⟨by rfl, fun w hc => ?_⟩) (unhide HS) ?_
            · clear hc; go_simp
            go_simp
            refine wpAnyH_take (i := 15) (v := .int .i64 zw) rfl (by kernel_rfl) (by kernel_rfl) (by kernel_rfl) (fun _ _ _ h => h) (Or.inl ⟨by rfl, fun w hc => ?_⟩) (unhide HS) ?_
            · clear hc; go_simp
            go_simp
            refine wpAnyH_take (i := 16) (v := .bool qw) rfl (by kernel_rfl) (by kernel_rfl) (by kernel_rfl) (fun _ _ _ h => h) (Or.inl ⟨by rfl, fun w hc => ?_⟩) (unhide HS) ?_
            · clear hc; go_simp
            go_simp
            refine wpAnyH_take (i := 17) (v := .int .i64 zw) rfl (by kernel_rfl) (by kernel_rfl) (by kernel_rfl) (fun _ _ _ h => h) (Or.inl ⟨by rfl, fun w hc => ?_⟩) (unhide HS) ?_
            · clear hc; go_simp
            go_simp
            refine wpAnyH_take (i := 18) (v := .bool qw) rfl (by kernel_rfl) (by kernel_rfl) (by kernel_rfl) (fun _ _ _ h => h) (Or.inl ⟨by rfl, fun w hc => ?_⟩) (unhide HS) ?_
            · clear hc; go_simp
            go_simp
            refine wpAnyH_done (by kernel_rfl) ?_ _
            refine hM6 _ _ (Met.intro (hJ6 _ _ ?_))
            (repeat apply Exists.intro)
            refine ⟨?_, rfl⟩
            exact ⟨zw, qw, rfl, rfl, unhide HZ, unhide B9⟩
          · go_simp
            refine (unhide AT 4 (by omega) w6 (unhide B6)).mono ?_
            rintro r wx ⟨⟨n4, hn4, rfl⟩, hwx⟩
            rw [hwx]
            clear hwx wx
            refine hK.out _ _ (unhide G6) (fun hS => ?_)
            clear HS
            have HS := hide hS
            clear hS hK K2
            refine wpAnyH_ready (rs := [7, 11]) (by kernel_rfl) (by simp) ?_
            refine AllReadyH.cons rfl (fun K2 hK => ?_) (AllReadyH.cons rfl (fun K2 hK => ?_) AllReadyH.nil)
            · go_simp
              have hbb := below_new w6 (.cells #[.string ⟨#[103]⟩, .string ⟨#[104]⟩] 9)
              have U7 := hide (rdu_lit w6)
              have B7 := hide ((unhide B6).trans (hbb.mono (unhide B6).size))
              have G7 := hide (row_keep (unhide G6) hbb)
              have X7 := hide ((unhide X6).later hbb)
              have R7 := hide ((unhide R6).later hbb)
              clear hbb B6 G6 X6 R6
              generalize w6.alloc (.cells #[.string ⟨#[103]⟩, .string ⟨#[104]⟩] 9) = w7 at *
              generalize w6.heap.size = gb at *
              refine hK.out _ _ (unhide G7) (fun hS => ?_)
              clear HS
              have HS := hide hS
              clear hS hK K2
              refine wpAnyH_ready (rs := [11]) (by kernel_rfl) (by simp) ?_
              refine AllReadyH.cons rfl (fun K2 hK => ?_) AllReadyH.nil
              go_simp
              refine (unhide AT 5 (by omega) w7 (unhide B7)).mono ?_
              rintro r wx ⟨⟨n5, hn5, rfl⟩, hwx⟩
              rw [hwx]
              clear hwx wx
              refine hK.out _ _ (unhide G7) (fun hS => ?_)
              clear HS
              have HS := hide hS
              clear hS hK K2
              refine wpAnyH_ready (rs := [12]) (by kernel_rfl) (by simp) ?_
              refine AllReadyH.cons rfl (fun K2 hK => ?_) AllReadyH.nil
              go_simp
              have hbb := below_new w7 (.cells #[.int .i64 (n4 : Int), .int .i64 (n5 : Int)] 3)
              have V8 := hide (show RdN (w7.alloc (.cells #[.int .i64 (n4 : Int), .int .i64 (n5 : Int)] 3)) (some ⟨w7.heap.size, 0, none⟩) [(n4 : Int), (n5 : Int)] from RdN_lit w7 [(n4 : Int), (n5 : Int)])
              have B8 := hide ((unhide B7).trans (hbb.mono (unhide B7).size))
              have G8 := hide (row_keep (unhide G7) hbb)
              have X8 := hide ((unhide X7).later hbb)
              have R8 := hide ((unhide R7).later hbb)
              have U8 := hide ((unhide U7).later hbb)
              clear hbb B7 G7 X7 R7 U7
              generalize w7.alloc (.cells #[.int .i64 (n4 : Int), .int .i64 (n5 : Int)] 3) = w8 at *
              generalize w7.heap.size = gc at *
              refine hK.out _ _ (unhide G8) (fun hS => ?_)
              clear HS
              have HS := hide hS
              clear hS hK K2
              refine wpAnyH_ready (rs := [13]) (by kernel_rfl) (by simp) ?_
              refine AllReadyH.cons rfl (fun K2 hK => ?_) AllReadyH.nil
              go_simp
              have KW1 := hide (fun n v => unhide KW [(n2 : Int) * 250, (n3 : Int), 9] [(n4 : Int), (n5 : Int)] n v)
              refine (unhide WX [(n2 : Int) * 250, (n3 : Int), 9] [(n4 : Int), (n5 : Int)] w8 (some ⟨ga, 0, none⟩) (some ⟨gb, 0, none⟩) (some ⟨gc, 0, none⟩) rfl rfl (unhide B8) (unhide X8).rd (unhide R8) (unhide U8) (unhide V8)).mono ?_
              rintro r w9 ⟨rfl, hbb⟩
              generalize worthA [(n2 : Int) * 250, (n3 : Int), 9] [⟨#[103]⟩, ⟨#[104]⟩] [(n4 : Int), (n5 : Int)] x = wo at *
              have HZ := hide (show qk = true → wo.isSome = true → wo.getD 0 = zk from fun h1 h2 => by
                obtain ⟨q1, q2⟩ := unhide ZK
                cases ko with
                | none => rw [← q2] at h1; cases h1
                | some n => cases wo with
                  | none => cases h2
                  | some v => rw [← q1]; exact unhide KW1 n v rfl rfl)
              clear KW1
              generalize wo.getD 0 = zw at *
              generalize wo.isSome = qw at *
              have B9 := hide ((unhide B8).trans (hbb.mono (unhide B8).size))
              have G9 := hide (row_keep (unhide G8) hbb)
              have X9 := hide ((unhide X8).later hbb)
              have R9 := hide ((unhide R8).later hbb)
              have U9 := hide ((unhide U8).later hbb)
              have V9 := hide ((unhide V8).later hbb)
              clear hbb B8 G8 X8 R8 U8 V8
              refine hK.out _ _ (unhide G9) (fun hS => ?_)
              clear HS
              have HS := hide hS
              clear hS hK K2
              refine wpAnyH_take (i := 14) (v := .tuple #[.int .i64 zw, .bool qw]) rfl (by kernel_rfl) (by kernel_rfl) (by kernel_rfl) (fun _ _ _ h => h) (Or.inl ⟨by rfl, fun w hc => ?_⟩) (unhide HS) ?_
              · clear hc; go_simp
              go_simp
              refine wpAnyH_take (i := 15) (v := .int .i64 zw) rfl (by kernel_rfl) (by kernel_rfl) (by kernel_rfl) (fun _ _ _ h => h) (Or.inl ⟨by rfl, fun w hc => ?_⟩) (unhide HS) ?_
              · clear hc; go_simp
              go_simp
              refine wpAnyH_take (i := 16) (v := .bool qw) rfl (by kernel_rfl) (by kernel_rfl) (by kernel_rfl) (fun _ _ _ h => h) (Or.inl ⟨by rfl, fun w hc => ?_⟩) (unhide HS) ?_
              · clear hc; go_simp
              go_simp
              refine wpAnyH_take (i := 17) (v := .int .i64 zw) rfl (by kernel_rfl) (by kernel_rfl) (by kernel_rfl) (fun _ _ _ h => h) (Or.inl ⟨by rfl, fun w hc => ?_⟩) (unhide HS) ?_
              · clear hc; go_simp
              go_simp
              refine wpAnyH_take (i := 18) (v := .bool qw) rfl (by kernel_rfl) (by kernel_rfl) (by kernel_rfl) (fun _ _ _ h => h) (Or.inl ⟨by rfl, fun w hc => ?_⟩) (unhide HS) ?_
              · clear hc; go_simp
              go_simp
              refine wpAnyH_done (by kernel_rfl) ?_ _
              refine hM6 _ _ (Met.intro (hJ6 _ _ ?_))
              (repeat apply Exists.intro)
              refine ⟨?_, rfl⟩
              exact ⟨zw, qw, rfl, rfl, unhide HZ, unhide B9⟩
            · go_simp
              refine (unhide AT 5 (by omega) w6 (unhide B6)).mono ?_
              rintro r wx ⟨⟨n5, hn5, rfl⟩, hwx⟩
              rw [hwx]
              clear hwx wx
              refine hK.out _ _ (unhide G6) (fun hS => ?_)
              clear HS
              have HS := hide hS
              clear hS hK K2
              refine wpAnyH_ready (rs := [7, 12]) (by kernel_rfl) (by simp) ?_
              refine AllReadyH.cons rfl (fun K2 hK => ?_) (AllReadyH.cons rfl (fun K2 hK => ?_) AllReadyH.nil)
              · go_simp
                have hbb := below_new w6 (.cells #[.string ⟨#[103]⟩, .string ⟨#[104]⟩] 9)
                have U7 := hide (rdu_lit w6)
                have B7 := hide ((unhide B6).trans (hbb.mono (unhide B6).size))
                have G7 := hide (row_keep (unhide G6) hbb)
                have X7 := hide ((unhide X6).later hbb)
                have R7 := hide ((unhide R6).later hbb)
                clear hbb B6 G6 X6 R6
                generalize w6.alloc (.cells #[.string ⟨#[103]⟩, .string ⟨#[104]⟩] 9) = w7 at *
                generalize w6.heap.size = gb at *
                refine hK.out _ _ (unhide G7) (fun hS => ?_)
                clear HS
                have HS := hide hS
                clear hS hK K2
                refine wpAnyH_ready (rs := [12]) (by kernel_rfl) (by simp) ?_
                refine AllReadyH.cons rfl (fun K2 hK => ?_) AllReadyH.nil
                go_simp
                have hbb := below_new w7 (.cells #[.int .i64 (n4 : Int), .int .i64 (n5 : Int)] 3)
                have V8 := hide (show RdN (w7.alloc (.cells #[.int .i64 (n4 : Int), .int .i64 (n5 : Int)] 3)) (some ⟨w7.heap.size, 0, none⟩) [(n4 : Int), (n5 : Int)] from RdN_lit w7 [(n4 : Int), (n5 : Int)])
                have B8 := hide ((unhide B7).trans (hbb.mono (unhide B7).size))
                have G8 := hide (row_keep (unhide G7) hbb)
                have X8 := hide ((unhide X7).later hbb)
                have R8 := hide ((unhide R7).later hbb)
                have U8 := hide ((unhide U7).later hbb)
                clear hbb B7 G7 X7 R7 U7
                generalize w7.alloc (.cells #[.int .i64 (n4 : Int), .int .i64 (n5 : Int)] 3) = w8 at *
                generalize w7.heap.size = gc at *
                refine hK.out _ _ (unhide G8) (fun hS => ?_)
                clear HS
                have HS := hide hS
                clear hS hK K2
                refine wpAnyH_ready (rs := [13]) (by kernel_rfl) (by simp) ?_
                refine AllReadyH.cons rfl (fun K2 hK => ?_) AllReadyH.nil
                go_simp
                have KW1 := hide (fun n v => unhide KW [(n2 : Int) * 250, (n3 : Int), 9] [(n4 : Int), (n5 : Int)] n v)
                refine (unhide WX [(n2 : Int) * 250, (n3 : Int), 9] [(n4 : Int), (n5 : Int)] w8 (some ⟨ga, 0, none⟩) (some ⟨gb, 0, none⟩) (some ⟨gc, 0, none⟩) rfl rfl (unhide B8) (unhide X8).rd (unhide R8) (unhide U8) (unhide V8)).mono ?_
                rintro r w9 ⟨rfl, hbb⟩
                generalize worthA [(n2 : Int) * 250, (n3 : Int), 9] [⟨#[103]⟩, ⟨#[104]⟩] [(n4 : Int), (n5 : Int)] x = wo at *
                have HZ := hide (show qk = true → wo.isSome = true → wo.getD 0 = zk from fun h1 h2 => by
                  obtain ⟨q1, q2⟩ := unhide ZK
                  cases ko with
                  | none => rw [← q2] at h1; cases h1
                  | some n => cases wo with
                    | none => cases h2
                    | some v => rw [← q1]; exact unhide KW1 n v rfl rfl)
                clear KW1
                generalize wo.getD 0 = zw at *
                generalize wo.isSome = qw at *
                have B9 := hide ((unhide B8).trans (hbb.mono (unhide B8).size))
                have G9 := hide (row_keep (unhide G8) hbb)
                have X9 := hide ((unhide X8).later hbb)
                have R9 := hide ((unhide R8).later hbb)
                have U9 := hide ((unhide U8).later hbb)
                have V9 := hide ((unhide V8).later hbb)
                clear hbb B8 G8 X8 R8 U8 V8
                refine hK.out _ _ (unhide G9) (fun hS => ?_)
                clear HS
                have HS := hide hS
                clear hS hK K2
                refine wpAnyH_take (i := 14) (v := .tuple #[.int .i64 zw, .bool qw]) rfl (by kernel_rfl) (by kernel_rfl) (by kernel_rfl) (fun _ _ _ h => h) (Or.inl ⟨by rfl, fun w hc => ?_⟩) (unhide HS) ?_
                · clear hc; go_simp
                go_simp
                refine wpAnyH_take (i := 15) (v := .int .i64 zw) rfl (by kernel_rfl) (by kernel_rfl) (by kernel_rfl) (fun _ _ _ h => h) (Or.inl ⟨by rfl, fun w hc => ?_⟩) (unhide HS) ?_
                · clear hc; go_simp
                go_simp
                refine wpAnyH_take (i := 16) (v := .bool qw) rfl (by kernel_rfl) (by kernel_rfl) (by kernel_rfl) (fun _ _ _ h => h) (Or.inl ⟨by rfl, fun w hc => ?_⟩) (unhide HS) ?_
                · clear hc; go_simp
                go_simp
                refine wpAnyH_take (i := 17) (v := .int .i64 zw) rfl (by kernel_rfl) (by kernel_rfl) (by kernel_rfl) (fun _ _ _ h => h) (Or.inl ⟨by rfl, fun w hc => ?_⟩) (unhide HS) ?_
                · clear hc; go_simp
                go_simp
                refine wpAnyH_take (i := 18) (v := .bool qw) rfl (by kernel_rfl) (by kernel_rfl) (by kernel_rfl) (fun _ _ _ h => h) (Or.inl ⟨by rfl, fun w hc => ?_⟩) (unhide HS) ?_
                · clear hc; go_simp
                go_simp
                refine wpAnyH_done (by kernel_rfl) ?_ _
                refine hM6 _ _ (Met.intro (hJ6 _ _ ?_))
                (repeat apply Exists.intro)
                refine ⟨?_, rfl⟩
                exact ⟨zw, qw, rfl, rfl, unhide HZ, unhide B9⟩
              · go_simp
                have hbb := below_new w6 (.cells #[.int .i64 (n4 : Int), .int .i64 (n5 : Int)] 3)
                have V7 := hide (show RdN (w6.alloc (.cells #[.int .i64 (n4 : Int), .int .i64 (n5 : Int)] 3)) (some ⟨w6.heap.size, 0, none⟩) [(n4 : Int), (n5 : Int)] from RdN_lit w6 [(n4 : Int), (n5 : Int)])
                have B7 := hide ((unhide B6).trans (hbb.mono (unhide B6).size))
                have G7 := hide (row_keep (unhide G6) hbb)
                have X7 := hide ((unhide X6).later hbb)
                have R7 := hide ((unhide R6).later hbb)
                clear hbb B6 G6 X6 R6
                generalize w6.alloc (.cells #[.int .i64 (n4 : Int), .int .i64 (n5 : Int)] 3) = w7 at *
                generalize w6.heap.size = gc at *
                refine hK.out _ _ (unhide G7) (fun hS => ?_)
                clear HS
                have HS := hide hS
                clear hS hK K2
                refine wpAnyH_ready (rs := [7]) (by kernel_rfl) (by simp) ?_
                refine AllReadyH.cons rfl (fun K2 hK => ?_) AllReadyH.nil
                go_simp
                have hbb := below_new w7 (.cells #[.string ⟨#[103]⟩, .string ⟨#[104]⟩] 9)
                have U8 := hide (rdu_lit w7)
                have B8 := hide ((unhide B7).trans (hbb.mono (unhide B7).size))
                have G8 := hide (row_keep (unhide G7) hbb)
                have X8 := hide ((unhide X7).later hbb)
                have R8 := hide ((unhide R7).later hbb)
                have V8 := hide ((unhide V7).later hbb)
                clear hbb B7 G7 X7 R7 V7
                generalize w7.alloc (.cells #[.string ⟨#[103]⟩, .string ⟨#[104]⟩] 9) = w8 at *
                generalize w7.heap.size = gb at *
                refine hK.out _ _ (unhide G8) (fun hS => ?_)
                clear HS
                have HS := hide hS
                clear hS hK K2
                refine wpAnyH_ready (rs := [13]) (by kernel_rfl) (by simp) ?_
                refine AllReadyH.cons rfl (fun K2 hK => ?_) AllReadyH.nil
                go_simp
                have KW1 := hide (fun n v => unhide KW [(n2 : Int) * 250, (n3 : Int), 9] [(n4 : Int), (n5 : Int)] n v)
                refine (unhide WX [(n2 : Int) * 250, (n3 : Int), 9] [(n4 : Int), (n5 : Int)] w8 (some ⟨ga, 0, none⟩) (some ⟨gb, 0, none⟩) (some ⟨gc, 0, none⟩) rfl rfl (unhide B8) (unhide X8).rd (unhide R8) (unhide U8) (unhide V8)).mono ?_
                rintro r w9 ⟨rfl, hbb⟩
                generalize worthA [(n2 : Int) * 250, (n3 : Int), 9] [⟨#[103]⟩, ⟨#[104]⟩] [(n4 : Int), (n5 : Int)] x = wo at *
                have HZ := hide (show qk = true → wo.isSome = true → wo.getD 0 = zk from fun h1 h2 => by
                  obtain ⟨q1, q2⟩ := unhide ZK
                  cases ko with
                  | none => rw [← q2] at h1; cases h1
                  | some n => cases wo with
                    | none => cases h2
                    | some v => rw [← q1]; exact unhide KW1 n v rfl rfl)
                clear KW1
                generalize wo.getD 0 = zw at *
                generalize wo.isSome = qw at *
                have B9 := hide ((unhide B8).trans (hbb.mono (unhide B8).size))
                have G9 := hide (row_keep (unhide G8) hbb)
                have X9 := hide ((unhide X8).later hbb)
                have R9 := hide ((unhide R8).later hbb)
                have V9 := hide ((unhide V8).later hbb)
                have U9 := hide ((unhide U8).later hbb)
                clear hbb B8 G8 X8 R8 V8 U8
                refine hK.out _ _ (unhide G9) (fun hS => ?_)
                clear HS
                have HS := hide hS
                clear hS hK K2
                refine wpAnyH_take (i := 14) (v := .tuple #[.int .i64 zw, .bool qw]) rfl (by kernel_rfl) (by kernel_rfl) (by kernel_rfl) (fun _ _ _ h => h) (Or.inl ⟨by rfl, fun w hc => ?_⟩) (unhide HS) ?_
                · clear hc; go_simp
                go_simp
                refine wpAnyH_take (i := 15) (v := .int .i64 zw) rfl (by kernel_rfl) (by kernel_rfl) (by kernel_rfl) (fun _ _ _ h => h) (Or.inl ⟨by rfl, fun w hc => ?_⟩) (unhide HS) ?_
                · clear hc; go_simp
                go_simp
                refine wpAnyH_take (i := 16) (v := .bool qw) rfl (by kernel_rfl) (by kernel_rfl) (by kernel_rfl) (fun _ _ _ h => h) (Or.inl ⟨by rfl, fun w hc => ?_⟩) (unhide HS) ?_
                · clear hc; go_simp
                go_simp
                refine wpAnyH_take (i := 17) (v := .int .i64 zw) rfl (by kernel_rfl) (by kernel_rfl) (by kernel_rfl) (fun _ _ _ h => h) (Or.inl ⟨by rfl, fun w hc => ?_⟩) (unhide HS) ?_
                · clear hc; go_simp
                go_simp
                refine wpAnyH_take (i := 18) (v := .bool qw) rfl (by kernel_rfl) (by kernel_rfl) (by kernel_rfl) (fun _ _ _ h => h) (Or.inl ⟨by rfl, fun w hc => ?_⟩) (unhide HS) ?_
                · clear hc; go_simp
                go_simp
                refine wpAnyH_done (by kernel_rfl) ?_ _
                refine hM6 _ _ (Met.intro (hJ6 _ _ ?_))
                (repeat apply Exists.intro)
                refine ⟨?_, rfl⟩
                exact ⟨zw, qw, rfl, rfl, unhide HZ, unhide B9⟩
        · go_simp
          have hbb := below_new w5 (.cells #[.string ⟨#[103]⟩, .string ⟨#[104]⟩] 9)
          have U6 := hide (rdu_lit w5)
          have B6 := hide ((unhide B5).trans (hbb.mono (unhide B5).size))
          have G6 := hide (row_keep (unhide G5) hbb)
          have X6 := hide ((unhide X5).later hbb)
          clear hbb B5 G5 X5
          generalize w5.alloc (.cells #[.string ⟨#[103]⟩, .string ⟨#[104]⟩] 9) = w6 at *
          generalize w5.heap.size = gb at *
          refine hK.out _ _ (unhide G6) (fun hS => ?_)
          clear HS
          have HS := hide hS
          clear hS hK K2
          refine wpAnyH_ready (rs := [6, 9]) (by kernel_rfl) (by simp) ?_
          refine AllReadyH.cons rfl (fun K2 hK => ?_) (AllReadyH.cons rfl (fun K2 hK => ?_) AllReadyH.nil)
          · go_simp
            have hbb := below_new w6 (.cells #[.int .i64 ((n2 : Int) * 250), .int .i64 (n3 : Int), .int .i64 9] 3)
            have R7 := hide (show RdN (w6.alloc (.cells #[.int .i64 ((n2 : Int) * 250), .int .i64 (n3 : Int), .int .i64 9] 3)) (some ⟨w6.heap.size, 0, none⟩) [(n2 : Int) * 250, (n3 : Int), 9] from RdN_lit w6 [(n2 : Int) * 250, (n3 : Int), 9])
            have B7 := hide ((unhide B6).trans (hbb.mono (unhide B6).size))
            have G7 := hide (row_keep (unhide G6) hbb)
            have X7 := hide ((unhide X6).later hbb)
            have U7 := hide ((unhide U6).later hbb)
            clear hbb B6 G6 X6 U6
            generalize w6.alloc (.cells #[.int .i64 ((n2 : Int) * 250), .int .i64 (n3 : Int), .int .i64 9] 3) = w7 at *
            generalize w6.heap.size = ga at *
            refine hK.out _ _ (unhide G7) (fun hS => ?_)
            clear HS
            have HS := hide hS
            clear hS hK K2
            refine wpAnyH_ready (rs := [9]) (by kernel_rfl) (by simp) ?_
            refine AllReadyH.cons rfl (fun K2 hK => ?_) AllReadyH.nil
            go_simp
            refine (unhide AT 4 (by omega) w7 (unhide B7)).mono ?_
            rintro r wx ⟨⟨n4, hn4, rfl⟩, hwx⟩
            rw [hwx]
            clear hwx wx
            refine hK.out _ _ (unhide G7) (fun hS => ?_)
            clear HS
            have HS := hide hS
            clear hS hK K2
            refine wpAnyH_ready (rs := [11]) (by kernel_rfl) (by simp) ?_
            refine AllReadyH.cons rfl (fun K2 hK => ?_) AllReadyH.nil
            go_simp
            refine (unhide AT 5 (by omega) w7 (unhide B7)).mono ?_
            rintro r wx ⟨⟨n5, hn5, rfl⟩, hwx⟩
            rw [hwx]
            clear hwx wx
            refine hK.out _ _ (unhide G7) (fun hS => ?_)
            clear HS
            have HS := hide hS
            clear hS hK K2
            refine wpAnyH_ready (rs := [12]) (by kernel_rfl) (by simp) ?_
            refine AllReadyH.cons rfl (fun K2 hK => ?_) AllReadyH.nil
            go_simp
            have hbb := below_new w7 (.cells #[.int .i64 (n4 : Int), .int .i64 (n5 : Int)] 3)
            have V8 := hide (show RdN (w7.alloc (.cells #[.int .i64 (n4 : Int), .int .i64 (n5 : Int)] 3)) (some ⟨w7.heap.size, 0, none⟩) [(n4 : Int), (n5 : Int)] from RdN_lit w7 [(n4 : Int), (n5 : Int)])
            have B8 := hide ((unhide B7).trans (hbb.mono (unhide B7).size))
            have G8 := hide (row_keep (unhide G7) hbb)
            have X8 := hide ((unhide X7).later hbb)
            have U8 := hide ((unhide U7).later hbb)
            have R8 := hide ((unhide R7).later hbb)
            clear hbb B7 G7 X7 U7 R7
            generalize w7.alloc (.cells #[.int .i64 (n4 : Int), .int .i64 (n5 : Int)] 3) = w8 at *
            generalize w7.heap.size = gc at *
            refine hK.out _ _ (unhide G8) (fun hS => ?_)
            clear HS
            have HS := hide hS
            clear hS hK K2
            refine wpAnyH_ready (rs := [13]) (by kernel_rfl) (by simp) ?_
            refine AllReadyH.cons rfl (fun K2 hK => ?_) AllReadyH.nil
            go_simp
            have KW1 := hide (fun n v => unhide KW [(n2 : Int) * 250, (n3 : Int), 9] [(n4 : Int), (n5 : Int)] n v)
            refine (unhide WX [(n2 : Int) * 250, (n3 : Int), 9] [(n4 : Int), (n5 : Int)] w8 (some ⟨ga, 0, none⟩) (some ⟨gb, 0, none⟩) (some ⟨gc, 0, none⟩) rfl rfl (unhide B8) (unhide X8).rd (unhide R8) (unhide U8) (unhide V8)).mono ?_
            rintro r w9 ⟨rfl, hbb⟩
            generalize worthA [(n2 : Int) * 250, (n3 : Int), 9] [⟨#[103]⟩, ⟨#[104]⟩] [(n4 : Int), (n5 : Int)] x = wo at *
            have HZ := hide (show qk = true → wo.isSome = true → wo.getD 0 = zk from fun h1 h2 => by
              obtain ⟨q1, q2⟩ := unhide ZK
              cases ko with
              | none => rw [← q2] at h1; cases h1
              | some n => cases wo with
                | none => cases h2
                | some v => rw [← q1]; exact unhide KW1 n v rfl rfl)
            clear KW1
            generalize wo.getD 0 = zw at *
            generalize wo.isSome = qw at *
            have B9 := hide ((unhide B8).trans (hbb.mono (unhide B8).size))
            have G9 := hide (row_keep (unhide G8) hbb)
            have X9 := hide ((unhide X8).later hbb)
            have U9 := hide ((unhide U8).later hbb)
            have R9 := hide ((unhide R8).later hbb)
            have V9 := hide ((unhide V8).later hbb)
            clear hbb B8 G8 X8 U8 R8 V8
            refine hK.out _ _ (unhide G9) (fun hS => ?_)
            clear HS
            have HS := hide hS
            clear hS hK K2
            refine wpAnyH_take (i := 14) (v := .tuple #[.int .i64 zw, .bool qw]) rfl (by kernel_rfl) (by kernel_rfl) (by kernel_rfl) (fun _ _ _ h => h) (Or.inl ⟨by rfl, fun w hc => ?_⟩) (unhide HS) ?_
            · clear hc; go_simp
            go_simp
            refine wpAnyH_take (i := 15) (v := .int .i64 zw) rfl (by kernel_rfl) (by kernel_rfl) (by kernel_rfl) (fun _ _ _ h => h) (Or.inl ⟨by rfl, fun w hc => ?_⟩) (unhide HS) ?_
            · clear hc; go_simp
            go_simp
            refine wpAnyH_take (i := 16) (v := .bool qw) rfl (by kernel_rfl) (by kernel_rfl) (by kernel_rfl) (fun _ _ _ h => h) (Or.inl ⟨by rfl, fun w hc => ?_⟩) (unhide HS) ?_
            · clear hc; go_simp
            go_simp
            refine wpAnyH_take (i := 17) (v := .int .i64 zw) rfl (by kernel_rfl) (by kernel_rfl) (by kernel_rfl) (fun _ _ _ h => h) (Or.inl ⟨by rfl, fun w hc => ?_⟩) (unhide HS) ?_
            · clear hc; go_simp
            go_simp
            refine wpAnyH_take (i := 18) (v := .bool qw) rfl (by kernel_rfl) (by kernel_rfl) (by kernel_rfl) (fun _ _ _ h => h) (Or.inl ⟨by rfl, fun w hc => ?_⟩) (unhide HS) ?_
            · clear hc; go_simp
            go_simp
            refine wpAnyH_done (by kernel_rfl) ?_ _
            refine hM6 _ _ (Met.intro (hJ6 _ _ ?_))
            (repeat apply Exists.intro)
            refine ⟨?_, rfl⟩
            exact ⟨zw, qw, rfl, rfl, unhide HZ, unhide B9⟩
          · go_simp
            refine (unhide AT 4 (by omega) w6 (unhide B6)).mono ?_
            rintro r wx ⟨⟨n4, hn4, rfl⟩, hwx⟩
            rw [hwx]
            clear hwx wx
            refine hK.out _ _ (unhide G6) (fun hS => ?_)
            clear HS
            have HS := hide hS
            clear hS hK K2
            refine wpAnyH_ready (rs := [6, 11]) (by kernel_rfl) (by simp) ?_
            refine AllReadyH.cons rfl (fun K2 hK => ?_) (AllReadyH.cons rfl (fun K2 hK => ?_) AllReadyH.nil)
            · go_simp
              have hbb := below_new w6 (.cells #[.int .i64 ((n2 : Int) * 250), .int .i64 (n3 : Int), .int .i64 9] 3)
              have R7 := hide (show RdN (w6.alloc (.cells #[.int .i64 ((n2 : Int) * 250), .int .i64 (n3 : Int), .int .i64 9] 3)) (some ⟨w6.heap.size, 0, none⟩) [(n2 : Int) * 250, (n3 : Int), 9] from RdN_lit w6 [(n2 : Int) * 250, (n3 : Int), 9])
              have B7 := hide ((unhide B6).trans (hbb.mono (unhide B6).size))
              have G7 := hide (row_keep (unhide G6) hbb)
              have X7 := hide ((unhide X6).later hbb)
              have U7 := hide ((unhide U6).later hbb)
              clear hbb B6 G6 X6 U6
              generalize w6.alloc (.cells #[.int .i64 ((n2 : Int) * 250), .int .i64 (n3 : Int), .int .i64 9] 3) = w7 at *
              generalize w6.heap.size = ga at *
              refine hK.out _ _ (unhide G7) (fun hS => ?_)
              clear HS
              have HS := hide hS
              clear hS hK K2
              refine wpAnyH_ready (rs := [11]) (by kernel_rfl) (by simp) ?_
              refine AllReadyH.cons rfl (fun K2 hK => ?_) AllReadyH.nil
              go_simp
              refine (unhide AT 5 (by omega) w7 (unhide B7)).mono ?_
              rintro r wx ⟨⟨n5, hn5, rfl⟩, hwx⟩
              rw [hwx]
              clear hwx wx
              refine hK.out _ _ (unhide G7) (fun hS => ?_)
              clear HS
              have HS := hide hS
              clear hS hK K2
              refine wpAnyH_ready (rs := [12]) (by kernel_rfl) (by simp) ?_
              refine AllReadyH.cons rfl (fun K2 hK => ?_) AllReadyH.nil
              go_simp
              have hbb := below_new w7 (.cells #[.int .i64 (n4 : Int), .int .i64 (n5 : Int)] 3)
              have V8 := hide (show RdN (w7.alloc (.cells #[.int .i64 (n4 : Int), .int .i64 (n5 : Int)] 3)) (some ⟨w7.heap.size, 0, none⟩) [(n4 : Int), (n5 : Int)] from RdN_lit w7 [(n4 : Int), (n5 : Int)])
              have B8 := hide ((unhide B7).trans (hbb.mono (unhide B7).size))
              have G8 := hide (row_keep (unhide G7) hbb)
              have X8 := hide ((unhide X7).later hbb)
              have U8 := hide ((unhide U7).later hbb)
              have R8 := hide ((unhide R7).later hbb)
              clear hbb B7 G7 X7 U7 R7
              generalize w7.alloc (.cells #[.int .i64 (n4 : Int), .int .i64 (n5 : Int)] 3) = w8 at *
              generalize w7.heap.size = gc at *
              refine hK.out _ _ (unhide G8) (fun hS => ?_)
              clear HS
              have HS := hide hS
              clear hS hK K2
              refine wpAnyH_ready (rs := [13]) (by kernel_rfl) (by simp) ?_
              refine AllReadyH.cons rfl (fun K2 hK => ?_) AllReadyH.nil
              go_simp
              have KW1 := hide (fun n v => unhide KW [(n2 : Int) * 250, (n3 : Int), 9] [(n4 : Int), (n5 : Int)] n v)
              refine (unhide WX [(n2 : Int) * 250, (n3 : Int), 9] [(n4 : Int), (n5 : Int)] w8 (some ⟨ga, 0, none⟩) (some ⟨gb, 0, none⟩) (some ⟨gc, 0, none⟩) rfl rfl (unhide B8) (unhide X8).rd (unhide R8) (unhide U8) (unhide V8)).mono ?_
              rintro r w9 ⟨rfl, hbb⟩
              generalize worthA [(n2 : Int) * 250, (n3 : Int), 9] [⟨#[103]⟩, ⟨#[104]⟩] [(n4 : Int), (n5 : Int)] x = wo at *
              have HZ := hide (show qk = true → wo.isSome = true → wo.getD 0 = zk from fun h1 h2 => by
                obtain ⟨q1, q2⟩ := unhide ZK
                cases ko with
                | none => rw [← q2] at h1; cases h1
                | some n => cases wo with
                  | none => cases h2
                  | some v => rw [← q1]; exact unhide KW1 n v rfl rfl)
              clear KW1
              generalize wo.getD 0 = zw at *
              generalize wo.isSome = qw at *
              have B9 := hide ((unhide B8).trans (hbb.mono (unhide B8).size))
              have G9 := hide (row_keep (unhide G8) hbb)
              have X9 := hide ((unhide X8).later hbb)
              have U9 := hide ((unhide U8).later hbb)
              have R9 := hide ((unhide R8).later hbb)
              have V9 := hide ((unhide V8).later hbb)
              clear hbb B8 G8 X8 U8 R8 V8
              refine hK.out _ _ (unhide G9) (fun hS => ?_)
              clear HS
              have HS := hide hS
              clear hS hK K2
              refine wpAnyH_take (i := 14) (v := .tuple #[.int .i64 zw, .bool qw]) rfl (by kernel_rfl) (by kernel_rfl) (by kernel_rfl) (fun _ _ _ h => h) (Or.inl ⟨by rfl, fun w hc => ?_⟩) (unhide HS) ?_
              · clear hc; go_simp
              go_simp
              refine wpAnyH_take (i := 15) (v := .int .i64 zw) rfl (by kernel_rfl) (by kernel_rfl) (by kernel_rfl) (fun _ _ _ h => h) (Or.inl ⟨by rfl, fun w hc => ?_⟩) (unhide HS) ?_
              · clear hc; go_simp
              go_simp
              refine wpAnyH_take (i := 16) (v := .bool qw) rfl (by kernel_rfl) (by kernel_rfl) (by kernel_rfl) (fun _ _ _ h => h) (Or.inl ⟨by rfl, fun w hc => ?_⟩) (unhide HS) ?_
              · clear hc; go_simp
              go_simp
              refine wpAnyH_take (i := 17) (v := .int .i64 zw) rfl (by kernel_rfl) (by kernel_rfl) (by kernel_rfl) (fun _ _ _ h => h) (Or.inl ⟨by rfl, fun w hc => ?_⟩) (unhide HS) ?_
              · clear hc; go_simp
              go_simp
              refine wpAnyH_take (i := 18) (v := .bool qw) rfl (by kernel_rfl) (by kernel_rfl) (by kernel_rfl) (fun _ _ _ h => h) (Or.inl ⟨by rfl, fun w hc => ?_⟩) (unhide HS) ?_
              · clear hc; go_simp
              go_simp
              refine wpAnyH_done (by kernel_rfl) ?_ _
              refine hM6 _ _ (Met.intro (hJ6 _ _ ?_))
              (repeat apply Exists.intro)
              refine ⟨?_, rfl⟩
              exact ⟨zw, qw, rfl, rfl, unhide HZ, unhide B9⟩
            · go_simp
              refine (unhide AT 5 (by omega) w6 (unhide B6)).mono ?_
              rintro r wx ⟨⟨n5, hn5, rfl⟩, hwx⟩
              rw [hwx]
              clear hwx wx
              refine hK.out _ _ (unhide G6) (fun hS => ?_)
              clear HS
              have HS := hide hS
              clear hS hK K2
              refine wpAnyH_ready (rs := [6, 12]) (by kernel_rfl) (by simp) ?_
              refine AllReadyH.cons rfl (fun K2 hK => ?_) (AllReadyH.cons rfl (fun K2 hK => ?_) AllReadyH.nil)
              · go_simp
                have hbb := below_new w6 (.cells #[.int .i64 ((n2 : Int) * 250), .int .i64 (n3 : Int), .int .i64 9] 3)
                have R7 := hide (show RdN (w6.alloc (.cells #[.int .i64 ((n2 : Int) * 250), .int .i64 (n3 : Int), .int .i64 9] 3)) (some ⟨w6.heap.size, 0, none⟩) [(n2 : Int) * 250, (n3 : Int), 9] from RdN_lit w6 [(n2 : Int) * 250, (n3 : Int), 9])
                have B7 := hide ((unhide B6).trans (hbb.mono (unhide B6).size))
                have G7 := hide (row_keep (unhide G6) hbb)
                have X7 := hide ((unhide X6).later hbb)
                have U7 := hide ((unhide U6).later hbb)
                clear hbb B6 G6 X6 U6
                generalize w6.alloc (.cells #[.int .i64 ((n2 : Int) * 250), .int .i64 (n3 : Int), .int .i64 9] 3) = w7 at *
                generalize w6.heap.size = ga at *
                refine hK.out _ _ (unhide G7) (fun hS => ?_)
                clear HS
                have HS := hide hS
                clear hS hK K2
                refine wpAnyH_ready (rs := [12]) (by kernel_rfl) (by simp) ?_
                refine AllReadyH.cons rfl (fun K2 hK => ?_) AllReadyH.nil
                go_simp
                have hbb := below_new w7 (.cells #[.int .i64 (n4 : Int), .int .i64 (n5 : Int)] 3)
                have V8 := hide (show RdN (w7.alloc (.cells #[.int .i64 (n4 : Int), .int .i64 (n5 : Int)] 3)) (some ⟨w7.heap.size, 0, none⟩) [(n4 : Int), (n5 : Int)] from RdN_lit w7 [(n4 : Int), (n5 : Int)])
                have B8 := hide ((unhide B7).trans (hbb.mono (unhide B7).size))
                have G8 := hide (row_keep (unhide G7) hbb)
                have X8 := hide ((unhide X7).later hbb)
                have U8 := hide ((unhide U7).later hbb)
                have R8 := hide ((unhide R7).later hbb)
                clear hbb B7 G7 X7 U7 R7
                generalize w7.alloc (.cells #[.int .i64 (n4 : Int), .int .i64 (n5 : Int)] 3) = w8 at *
                generalize w7.heap.size = gc at *
                refine hK.out _ _ (unhide G8) (fun hS => ?_)
                clear HS
                have HS := hide hS
                clear hS hK K2
                refine wpAnyH_ready (rs := [13]) (by kernel_rfl) (by simp) ?_
                refine AllReadyH.cons rfl (fun K2 hK => ?_) AllReadyH.nil
                go_simp
                have KW1 := hide (fun n v => unhide KW [(n2 : Int) * 250, (n3 : Int), 9] [(n4 : Int), (n5 : Int)] n v)
                refine (unhide WX [(n2 : Int) * 250, (n3 : Int), 9] [(n4 : Int), (n5 : Int)] w8 (some ⟨ga, 0, none⟩) (some ⟨gb, 0, none⟩) (some ⟨gc, 0, none⟩) rfl rfl (unhide B8) (unhide X8).rd (unhide R8) (unhide U8) (unhide V8)).mono ?_
                rintro r w9 ⟨rfl, hbb⟩
                generalize worthA [(n2 : Int) * 250, (n3 : Int), 9] [⟨#[103]⟩, ⟨#[104]⟩] [(n4 : Int), (n5 : Int)] x = wo at *
                have HZ := hide (show qk = true → wo.isSome = true → wo.getD 0 = zk from fun h1 h2 => by
                  obtain ⟨q1, q2⟩ := unhide ZK
                  cases ko with
                  | none => rw [← q2] at h1; cases h1
                  | some n => cases wo with
                    | none => cases h2
                    | some v => rw [← q1]; exact unhide KW1 n v rfl rfl)
                clear KW1
                generalize wo.getD 0 = zw at *
                generalize wo.isSome = qw at *
                have B9 := hide ((unhide B8).trans (hbb.mono (unhide B8).size))
                have G9 := hide (row_keep (unhide G8) hbb)
                have X9 := hide ((unhide X8).later hbb)
                have U9 := hide ((unhide U8).later hbb)
                have R9 := hide ((unhide R8).later hbb)
                have V9 := hide ((unhide V8).later hbb)
                clear hbb B8 G8 X8 U8 R8 V8
                refine hK.out _ _ (unhide G9) (fun hS => ?_)
                clear HS
                have HS := hide hS
                clear hS hK K2
                refine wpAnyH_take (i := 14) (v := .tuple #[.int .i64 zw, .bool qw]) rfl (by kernel_rfl) (by kernel_rfl) (by kernel_rfl) (fun _ _ _ h => h) (Or.inl ⟨by rfl, fun w hc => ?_⟩) (unhide HS) ?_
                · clear hc; go_simp
                go_simp
                refine wpAnyH_take (i := 15) (v := .int .i64 zw) rfl (by kernel_rfl) (by kernel_rfl) (by kernel_rfl) (fun _ _ _ h => h) (Or.inl ⟨by rfl, fun w hc => ?_⟩) (unhide HS) ?_
                · clear hc; go_simp
                go_simp
                refine wpAnyH_take (i := 16) (v := .bool qw) rfl (by kernel_rfl) (by kernel_rfl) (by kernel_rfl) (fun _ _ _ h => h) (Or.inl ⟨by rfl, fun w hc => ?_⟩) (unhide HS) ?_
                · clear hc; go_simp
                go_simp
                refine wpAnyH_take (i := 17) (v := .int .i64 zw) rfl (by kernel_rfl) (by kernel_rfl) (by kernel_rfl) (fun _ _ _ h => h) (Or.inl ⟨by rfl, fun w hc => ?_⟩) (unhide HS) ?_
                · clear hc; go_simp
                go_simp
                refine wpAnyH_take (i := 18) (v := .bool qw) rfl (by kernel_rfl) (by kernel_rfl) (by kernel_rfl) (fun _ _ _ h => h) (Or.inl ⟨by rfl, fun w hc => ?_⟩) (unhide HS) ?_
                · clear hc; go_simp
                go_simp
                refine wpAnyH_done (by kernel_rfl) ?_ _
                refine hM6 _ _ (Met.intro (hJ6 _ _ ?_))
                (repeat apply Exists.intro)
                refine ⟨?_, rfl⟩
                exact ⟨zw, qw, rfl, rfl, unhide HZ, unhide B9⟩
              · go_simp
                have hbb := below_new w6 (.cells #[.int .i64 (n4 : Int), .int .i64 (n5 : Int)] 3)
                have V7 := hide (show RdN (w6.alloc (.cells #[.int .i64 (n4 : Int), .int .i64 (n5 : Int)] 3)) (some ⟨w6.heap.size, 0, none⟩) [(n4 : Int), (n5 : Int)] from RdN_lit w6 [(n4 : Int), (n5 : Int)])
                have B7 := hide ((unhide B6).trans (hbb.mono (unhide B6).size))
                have G7 := hide (row_keep (unhide G6) hbb)
                have X7 := hide ((unhide X6).later hbb)
                have U7 := hide ((unhide U6).later hbb)
                clear hbb B6 G6 X6 U6
                generalize w6.alloc (.cells #[.int .i64 (n4 : Int), .int .i64 (n5 : Int)] 3) = w7 at *
                generalize w6.heap.size = gc at *
                refine hK.out _ _ (unhide G7) (fun hS => ?_)
                clear HS
                have HS := hide hS
                clear hS hK K2
                refine wpAnyH_ready (rs := [6]) (by kernel_rfl) (by simp) ?_
                refine AllReadyH.cons rfl (fun K2 hK => ?_) AllReadyH.nil
                go_simp
                have hbb := below_new w7 (.cells #[.int .i64 ((n2 : Int) * 250), .int .i64 (n3 : Int), .int .i64 9] 3)
                have R8 := hide (show RdN (w7.alloc (.cells #[.int .i64 ((n2 : Int) * 250), .int .i64 (n3 : Int), .int .i64 9] 3)) (some ⟨w7.heap.size, 0, none⟩) [(n2 : Int) * 250, (n3 : Int), 9] from RdN_lit w7 [(n2 : Int) * 250, (n3 : Int), 9])
                have B8 := hide ((unhide B7).trans (hbb.mono (unhide B7).size))
                have G8 := hide (row_keep (unhide G7) hbb)
                have X8 := hide ((unhide X7).later hbb)
                have U8 := hide ((unhide U7).later hbb)
                have V8 := hide ((unhide V7).later hbb)
                clear hbb B7 G7 X7 U7 V7
                generalize w7.alloc (.cells #[.int .i64 ((n2 : Int) * 250), .int .i64 (n3 : Int), .int .i64 9] 3) = w8 at *
                generalize w7.heap.size = ga at *
                refine hK.out _ _ (unhide G8) (fun hS => ?_)
                clear HS
                have HS := hide hS
                clear hS hK K2
                refine wpAnyH_ready (rs := [13]) (by kernel_rfl) (by simp) ?_
                refine AllReadyH.cons rfl (fun K2 hK => ?_) AllReadyH.nil
                go_simp
                have KW1 := hide (fun n v => unhide KW [(n2 : Int) * 250, (n3 : Int), 9] [(n4 : Int), (n5 : Int)] n v)
                refine (unhide WX [(n2 : Int) * 250, (n3 : Int), 9] [(n4 : Int), (n5 : Int)] w8 (some ⟨ga, 0, none⟩) (some ⟨gb, 0, none⟩) (some ⟨gc, 0, none⟩) rfl rfl (unhide B8) (unhide X8).rd (unhide R8) (unhide U8) (unhide V8)).mono ?_
                rintro r w9 ⟨rfl, hbb⟩
                generalize worthA [(n2 : Int) * 250, (n3 : Int), 9] [⟨#[103]⟩, ⟨#[104]⟩] [(n4 : Int), (n5 : Int)] x = wo at *
                have HZ := hide (show qk = true → wo.isSome = true → wo.getD 0 = zk from fun h1 h2 => by
                  obtain ⟨q1, q2⟩ := unhide ZK
                  cases ko with
                  | none => rw [← q2] at h1; cases h1
                  | some n => cases wo with
                    | none => cases h2
                    | some v => rw [← q1]; exact unhide KW1 n v rfl rfl)
                clear KW1
                generalize wo.getD 0 = zw at *
                generalize wo.isSome = qw at *
                have B9 := hide ((unhide B8).trans (hbb.mono (unhide B8).size))
                have G9 := hide (row_keep (unhide G8) hbb)
                have X9 := hide ((unhide X8).later hbb)
                have U9 := hide ((unhide U8).later hbb)
                have V9 := hide ((unhide V8).later hbb)
                have R9 := hide ((unhide R8).later hbb)
                clear hbb B8 G8 X8 U8 V8 R8
                refine hK.out _ _ (unhide G9) (fun hS => ?_)
                clear HS
                have HS := hide hS
                clear hS hK K2
                refine wpAnyH_take (i := 14) (v := .tuple #[.int .i64 zw, .bool qw]) rfl (by kernel_rfl) (by kernel_rfl) (by kernel_rfl) (fun _ _ _ h => h) (Or.inl ⟨by rfl, fun w hc => ?_⟩) (unhide HS) ?_
                · clear hc; go_simp
                go_simp
                refine wpAnyH_take (i := 15) (v := .int .i64 zw) rfl (by kernel_rfl) (by kernel_rfl) (by kernel_rfl) (fun _ _ _ h => h) (Or.inl ⟨by rfl, fun w hc => ?_⟩) (unhide HS) ?_
                · clear hc; go_simp
                go_simp
                refine wpAnyH_take (i := 16) (v := .bool qw) rfl (by kernel_rfl) (by kernel_rfl) (by kernel_rfl) (fun _ _ _ h => h) (Or.inl ⟨by rfl, fun w hc => ?_⟩) (unhide HS) ?_
                · clear hc; go_simp
                go_simp
                refine wpAnyH_take (i := 17) (v := .int .i64 zw) rfl (by kernel_rfl) (by kernel_rfl) (by kernel_rfl) (fun _ _ _ h => h) (Or.inl ⟨by rfl, fun w hc => ?_⟩) (unhide HS) ?_
                · clear hc; go_simp
                go_simp
                refine wpAnyH_take (i := 18) (v := .bool qw) rfl (by kernel_rfl) (by kernel_rfl) (by kernel_rfl) (fun _ _ _ h => h) (Or.inl ⟨by rfl, fun w hc => ?_⟩) (unhide HS) ?_
                · clear hc; go_simp
                go_simp
                refine wpAnyH_done (by kernel_rfl) ?_ _
                refine hM6 _ _ (Met.intro (hJ6 _ _ ?_))
                (repeat apply Exists.intro)
                refine ⟨?_, rfl⟩
                exact ⟨zw, qw, rfl, rfl, unhide HZ, unhide B9⟩
        · go_simp
          refine (unhide AT 4 (by omega) w5 (unhide B5)).mono ?_
          rintro r wx ⟨⟨n4, hn4, rfl⟩, hwx⟩
          rw [hwx]
          clear hwx wx
          refine hK.out _ _ (unhide G5) (fun hS => ?_)
          clear HS
          have HS := hide hS
          clear hS hK K2
          refine wpAnyH_ready (rs := [6, 7, 11]) (by kernel_rfl) (by simp) ?_
          refine AllReadyH.cons rfl (fun K2 hK => ?_) (AllReadyH.cons rfl (fun K2 hK => ?_) (AllReadyH.cons rfl (fun K2 hK => ?_) AllReadyH.nil))
          · go_simp
            have hbb := below_new w5 (.cells #[.int .i64 ((n2 : Int) * 250), .int .i64 (n3 : Int), .int .i64 9] 3)
            have R6 := hide (show RdN (w5.alloc (.cells #[.int .i64 ((n2 : Int) * 250), .int .i64 (n3 : Int), .int .i64 9] 3)) (some ⟨w5.heap.size, 0, none⟩) [(n2 : Int) * 250, (n3 : Int), 9] from RdN_lit w5 [(n2 : Int) * 250, (n3 : Int), 9])
            have B6 := hide ((unhide B5).trans (hbb.mono (unhide B5).size))
            have G6 := hide (row_keep (unhide G5) hbb)
            have X6 := hide ((unhide X5).later hbb)
            clear hbb B5 G5 X5
            generalize w5.alloc (.cells #[.int .i64 ((n2 : Int) * 250), .int .i64 (n3 : Int), .int .i64 9] 3) = w6 at *
            generalize w5.heap.size = ga at *
            refine hK.out _ _ (unhide G6) (fun hS => ?_)
            clear HS
            have HS := hide hS
            clear hS hK K2
            refine wpAnyH_ready (rs := [7, 11]) (by kernel_rfl) (by simp) ?_
            refine AllReadyH.cons rfl (fun K2 hK => ?_) (AllReadyH.cons rfl (fun K2 hK => ?_) AllReadyH.nil)
            · go_simp
              have hbb := below_new w6 (.cells #[.string ⟨#[103]⟩, .string ⟨#[104]⟩] 9)
              have U7 := hide (rdu_lit w6)
              have B7 := hide ((unhide B6).trans (hbb.mono (unhide B6).size))
              have G7 := hide (row_keep (unhide G6) hbb)
              have X7 := hide ((unhide X6).later hbb)
              have R7 := hide ((unhide R6).later hbb)
              clear hbb B6 G6 X6 R6
              generalize w6.alloc (.cells #[.string ⟨#[103]⟩, .string ⟨#[104]⟩] 9) = w7 at *
              generalize w6.heap.size = gb at *
              refine hK.out _ _ (unhide G7) (fun hS => ?_)
              clear HS
              have HS := hide hS
              clear hS hK K2
              refine wpAnyH_ready (rs := [11]) (by kernel_rfl) (by simp) ?_
              refine AllReadyH.cons rfl (fun K2 hK => ?_) AllReadyH.nil
              go_simp
              refine (unhide AT 5 (by omega) w7 (unhide B7)).mono ?_
              rintro r wx ⟨⟨n5, hn5, rfl⟩, hwx⟩
              rw [hwx]
              clear hwx wx
              refine hK.out _ _ (unhide G7) (fun hS => ?_)
              clear HS
              have HS := hide hS
              clear hS hK K2
              refine wpAnyH_ready (rs := [12]) (by kernel_rfl) (by simp) ?_
              refine AllReadyH.cons rfl (fun K2 hK => ?_) AllReadyH.nil
              go_simp
              have hbb := below_new w7 (.cells #[.int .i64 (n4 : Int), .int .i64 (n5 : Int)] 3)
              have V8 := hide (show RdN (w7.alloc (.cells #[.int .i64 (n4 : Int), .int .i64 (n5 : Int)] 3)) (some ⟨w7.heap.size, 0, none⟩) [(n4 : Int), (n5 : Int)] from RdN_lit w7 [(n4 : Int), (n5 : Int)])
              have B8 := hide ((unhide B7).trans (hbb.mono (unhide B7).size))
              have G8 := hide (row_keep (unhide G7) hbb)
              have X8 := hide ((unhide X7).later hbb)
              have R8 := hide ((unhide R7).later hbb)
              have U8 := hide ((unhide U7).later hbb)
              clear hbb B7 G7 X7 R7 U7
              generalize w7.alloc (.cells #[.int .i64 (n4 : Int), .int .i64 (n5 : Int)] 3) = w8 at *
              generalize w7.heap.size = gc at *
              refine hK.out _ _ (unhide G8) (fun hS => ?_)
              clear HS
              have HS := hide hS
              clear hS hK K2
              refine wpAnyH_ready (rs := [13]) (by kernel_rfl) (by simp) ?_
              refine AllReadyH.cons rfl (fun K2 hK => ?_) AllReadyH.nil
              go_simp
              have KW1 := hide (fun n v => unhide KW [(n2 : Int) * 250, (n3 : Int), 9] [(n4 : Int), (n5 : Int)] n v)
              refine (unhide WX [(n2 : Int) * 250, (n3 : Int), 9] [(n4 : Int), (n5 : Int)] w8 (some ⟨ga, 0, none⟩) (some ⟨gb, 0, none⟩) (some ⟨gc, 0, none⟩) rfl rfl (unhide B8) (unhide X8).rd (unhide R8) (unhide U8) (unhide V8)).mono ?_
              rintro r w9 ⟨rfl, hbb⟩
              generalize worthA [(n2 : Int) * 250, (n3 : Int), 9] [⟨#[103]⟩, ⟨#[104]⟩] [(n4 : Int), (n5 : Int)] x = wo at *
              have HZ := hide (show qk = true → wo.isSome = true → wo.getD 0 = zk from fun h1 h2 => by
                obtain ⟨q1, q2⟩ := unhide ZK
                cases ko with
                | none => rw [← q2] at h1; cases h1
                | some n => cases wo with
                  | none => cases h2
                  | some v => rw [← q1]; exact unhide KW1 n v rfl rfl)
              clear KW1
              generalize wo.getD 0 = zw at *
              generalize wo.isSome = qw at *
              have B9 := hide ((unhide B8).trans (hbb.mono (unhide B8).size))
              have G9 := hide (row_keep (unhide G8) hbb)
              have X9 := hide ((unhide X8).later hbb)
              have R9 := hide ((unhide R8).later hbb)
              have U9 := hide ((unhide U8).later hbb)
              have V9 := hide ((unhide V8).later hbb)
              clear hbb B8 G8 X8 R8 U8 V8
              refine hK.out _ _ (unhide G9) (fun hS => ?_)
              clear HS
              have HS := hide hS
              clear hS hK K2
              refine wpAnyH_take (i := 14) (v := .tuple #[.int .i64 zw, .bool qw]) rfl (by kernel_rfl) (by kernel_rfl) (by kernel_rfl) (fun _ _ _ h => h) (Or.inl ⟨by rfl, fun w hc => ?_⟩) (unhide HS) ?_
              · clear hc; go_simp
              go_simp
              refine wpAnyH_take (i := 15) (v := .int .i64 zw) rfl (by kernel_rfl) (by kernel_rfl) (by kernel_rfl) (fun _ _ _ h => h) (Or.inl ⟨by rfl, fun w hc => ?_⟩) (unhide HS) ?_
              · clear hc; go_simp
              go_simp
              refine wpAnyH_take (i := 16) (v := .bool qw) rfl (by kernel_rfl) (by kernel_rfl) (by kernel_rfl) (fun _ _ _ h => h) (Or.inl ⟨by rfl, fun w hc => ?_⟩) (unhide HS) ?_
              · clear hc; go_simp
              go_simp
              refine wpAnyH_take (i := 17) (v := .int .i64 zw) rfl (by kernel_rfl) (by kernel_rfl) (by kernel_rfl) (fun _ _ _ h => h) (Or.inl ⟨by rfl, fun w hc => ?_⟩) (unhide HS) ?_
              · clear hc; go_simp
              go_simp
              refine wpAnyH_take (i := 18) (v := .bool qw) rfl (by kernel_rfl) (by kernel_rfl) (by kernel_rfl) (fun _ _ _ h => h) (Or.inl ⟨by rfl, fun w hc => ?_⟩) (unhide HS) ?_
              · clear hc; go_simp
              go_simp
              refine wpAnyH_done (by kernel_rfl) ?_ _
              refine hM6 _ _ (Met.intro (hJ6 _ _ ?_))
              (repeat apply Exists.intro)
              refine ⟨?_, rfl⟩
              exact ⟨zw, qw, rfl, rfl, unhide HZ, unhide B9⟩
            · go_simp
              refine (unhide AT 5 (by omega) w6 (unhide B6)).mono ?_
              rintro r wx ⟨⟨n5, hn5, rfl⟩, hwx⟩
              rw [hwx]
              clear hwx wx
              refine hK.out _ _ (unhide G6) (fun hS => ?_)
              clear HS
              have HS := hide hS
              clear hS hK K2
              refine wpAnyH_ready (rs := [7, 12]) (by kernel_rfl) (by simp) ?_
              refine AllReadyH.cons rfl (fun K2 hK => ?_) (AllReadyH.cons rfl (fun K2 hK => ?_) AllReadyH.nil)
              · go_simp
                have hbb := below_new w6 (.cells #[.string ⟨#[103]⟩, .string ⟨#[104]⟩] 9)
                have U7 := hide (rdu_lit w6)
                have B7 := hide ((unhide B6).trans (hbb.mono (unhide B6).size))
                have G7 := hide (row_keep (unhide G6) hbb)
                have X7 := hide ((unhide X6).later hbb)
                have R7 := hide ((unhide R6).later hbb)
                clear hbb B6 G6 X6 R6
                generalize w6.alloc (.cells #[.string ⟨#[103]⟩, .string ⟨#[104]⟩] 9) = w7 at *
                generalize w6.heap.size = gb at *
                refine hK.out _ _ (unhide G7) (fun hS => ?_)
                clear HS
                have HS := hide hS
                clear hS hK K2
                refine wpAnyH_ready (rs := [12]) (by kernel_rfl) (by simp) ?_
                refine AllReadyH.cons rfl (fun K2 hK => ?_) AllReadyH.nil
                go_simp
                have hbb := below_new w7 (.cells #[.int .i64 (n4 : Int), .int .i64 (n5 : Int)] 3)
                have V8 := hide (show RdN (w7.alloc (.cells #[.int .i64 (n4 : Int), .int .i64 (n5 : Int)] 3)) (some ⟨w7.heap.size, 0, none⟩) [(n4 : Int), (n5 : Int)] from RdN_lit w7 [(n4 : Int), (n5 : Int)])
                have B8 := hide ((unhide B7).trans (hbb.mono (unhide B7).size))
                have G8 := hide (row_keep (unhide G7) hbb)
                have X8 := hide ((unhide X7).later hbb)
                have R8 := hide ((unhide R7).later hbb)
                have U8 := hide ((unhide U7).later hbb)
                clear hbb B7 G7 X7 R7 U7
                generalize w7.alloc (.cells #[.int .i64 (n4 : Int), .int .i64 (n5 : Int)] 3) = w8 at *
                generalize w7.heap.size = gc at *
                refine hK.out _ _ (unhide G8) (fun hS => ?_)
                clear HS
                have HS := hide hS
                clear hS hK K2
                refine wpAnyH_ready (rs := [13]) (by kernel_rfl) (by simp) ?_
                refine AllReadyH.cons rfl (fun K2 hK => ?_) AllReadyH.nil
                go_simp
                have KW1 := hide (fun n v => unhide KW [(n2 : Int) * 250, (n3 : Int), 9] [(n4 : Int), (n5 : Int)] n v)
                refine (unhide WX [(n2 : Int) * 250, (n3 : Int), 9] [(n4 : Int), (n5 : Int)] w8 (some ⟨ga, 0, none⟩) (some ⟨gb, 0, none⟩) (some ⟨gc, 0, none⟩) rfl rfl (unhide B8) (unhide X8).rd (unhide R8) (unhide U8) (unhide V8)).mono ?_
                rintro r w9 ⟨rfl, hbb⟩
                generalize worthA [(n2 : Int) * 250, (n3 : Int), 9] [⟨#[103]⟩, ⟨#[104]⟩] [(n4 : Int), (n5 : Int)] x = wo at *
                have HZ := hide (show qk = true → wo.isSome = true → wo.getD 0 = zk from fun h1 h2 => by
                  obtain ⟨q1, q2⟩ := unhide ZK
                  cases ko with
                  | none => rw [← q2] at h1; cases h1
                  | some n => cases wo with
                    | none => cases h2
                    | some v => rw [← q1]; exact unhide KW1 n v rfl rfl)
                clear KW1
                generalize wo.getD 0 = zw at *
                generalize wo.isSome = qw at *
                have B9 := hide ((unhide B8).trans (hbb.mono (unhide B8).size))
                have G9 := hide (row_keep (unhide G8) hbb)
                have X9 := hide ((unhide X8).later hbb)
                have R9 := hide ((unhide R8).later hbb)
                have U9 := hide ((unhide U8).later hbb)
                have V9 := hide ((unhide V8).later hbb)
                clear hbb B8 G8 X8 R8 U8 V8
                refine hK.out _ _ (unhide G9) (fun hS => ?_)
                clear HS
                have HS := hide hS
                clear hS hK K2
                refine wpAnyH_take (i := 14) (v := .tuple #[.int .i64 zw, .bool qw]) rfl (by kernel_rfl) (by kernel_rfl) (by kernel_rfl) (fun _ _ _ h => h) (Or.inl ⟨by rfl, fun w hc => ?_⟩) (unhide HS) ?_
                · clear hc; go_simp
                go_simp
                refine wpAnyH_take (i := 15) (v := .int .i64 zw) rfl (by kernel_rfl) (by kernel_rfl) (by kernel_rfl) (fun _ _ _ h => h) (Or.inl ⟨by rfl, fun w hc => ?_⟩) (unhide HS) ?_
                · clear hc; go_simp
                go_simp
                refine wpAnyH_take (i := 16) (v := .bool qw) rfl (by kernel_rfl) (by kernel_rfl) (by kernel_rfl) (fun _ _ _ h => h) (Or.inl ⟨by rfl, fun w hc => ?_⟩) (unhide HS) ?_
                · clear hc; go_simp
                go_simp
                refine wpAnyH_take (i := 17) (v := .int .i64 zw) rfl (by kernel_rfl) (by kernel_rfl) (by kernel_rfl) (fun _ _ _ h => h) (Or.inl ⟨by rfl, fun w hc => ?_⟩) (unhide HS) ?_
                · clear hc; go_simp
                go_simp
                refine wpAnyH_take (i := 18) (v := .bool qw) rfl (by kernel_rfl) (by kernel_rfl) (by kernel_rfl) (fun _ _ _ h => h) (Or.inl ⟨by rfl, fun w hc => ?_⟩) (unhide HS) ?_
                · clear hc; go_simp
                go_simp
                refine wpAnyH_done (by kernel_rfl) ?_ _
                refine hM6 _ _ (Met.intro (hJ6 _ _ ?_))
                (repeat apply Exists.intro)
                refine ⟨?_, rfl⟩
                exact ⟨zw, qw, rfl, rfl, unhide HZ, unhide B9⟩
              · go_simp
                have hbb := below_new w6 (.cells #[.int .i64 (n4 : Int), .int .i64 (n5 : Int)] 3)
                have V7 := hide (show RdN (w6.alloc (.cells #[.int .i64 (n4 : Int), .int .i64 (n5 : Int)] 3)) (some ⟨w6.heap.size, 0, none⟩) [(n4 : Int), (n5 : Int)] from RdN_lit w6 [(n4 : Int), (n5 : Int)])
                have B7 := hide ((unhide B6).trans (hbb.mono (unhide B6).size))
                have G7 := hide (row_keep (unhide G6) hbb)
                have X7 := hide ((unhide X6).later hbb)
                have R7 := hide ((unhide R6).later hbb)
                clear hbb B6 G6 X6 R6
                generalize w6.alloc (.cells #[.int .i64 (n4 : Int), .int .i64 (n5 : Int)] 3) = w7 at *
                generalize w6.heap.size = gc at *
                refine hK.out _ _ (unhide G7) (fun hS => ?_)
                clear HS
                have HS := hide hS
                clear hS hK K2
                refine wpAnyH_ready (rs := [7]) (by kernel_rfl) (by simp) ?_
                refine AllReadyH.cons rfl (fun K2 hK => ?_) AllReadyH.nil
                go_simp
                have hbb := below_new w7 (.cells #[.string ⟨#[103]⟩, .string ⟨#[104]⟩] 9)
                have U8 := hide (rdu_lit w7)
                have B8 := hide ((unhide B7).trans (hbb.mono (unhide B7).size))
                have G8 := hide (row_keep (unhide G7) hbb)
                have X8 := hide ((unhide X7).later hbb)
                have R8 := hide ((unhide R7).later hbb)
                have V8 := hide ((unhide V7).later hbb)
                clear hbb B7 G7 X7 R7 V7
                generalize w7.alloc (.cells #[.string ⟨#[103]⟩, .string ⟨#[104]⟩] 9) = w8 at *
                generalize w7.heap.size = gb at *
                refine hK.out _ _ (unhide G8) (fun hS => ?_)
                clear HS
                have HS := hide hS
                clear hS hK K2
                refine wpAnyH_ready (rs := [13]) (by kernel_rfl) (by simp) ?_
                refine AllReadyH.cons rfl (fun K2 hK => ?_) AllReadyH.nil
                go_simp
                have KW1 := hide (fun n v => unhide KW [(n2 : Int) * 250, (n3 : Int), 9] [(n4 : Int), (n5 : Int)] n v)
                refine (unhide WX [(n2 : Int) * 250, (n3 : Int), 9] [(n4 : Int), (n5 : Int)] w8 (some ⟨ga, 0, none⟩) (some ⟨gb, 0, none⟩) (some ⟨gc, 0, none⟩) rfl rfl (unhide B8) (unhide X8).rd (unhide R8) (unhide U8) (unhide V8)).mono ?_
                rintro r w9 ⟨rfl, hbb⟩
                generalize worthA [(n2 : Int) * 250, (n3 : Int), 9] [⟨#[103]⟩, ⟨#[104]⟩] [(n4 : Int), (n5 : Int)] x = wo at *
                have HZ := hide (show qk = true → wo.isSome = true → wo.getD 0 = zk from fun h1 h2 => by
                  obtain ⟨q1, q2⟩ := unhide ZK
                  cases ko with
                  | none => rw [← q2] at h1; cases h1
                  | some n => cases wo with
                    | none => cases h2
                    | some v => rw [← q1]; exact unhide KW1 n v rfl rfl)
                clear KW1
                generalize wo.getD 0 = zw at *
                generalize wo.isSome = qw at *
                have B9 := hide ((unhide B8).trans (hbb.mono (unhide B8).size))
                have G9 := hide (row_keep (unhide G8) hbb)
                have X9 := hide ((unhide X8).later hbb)
                have R9 := hide ((unhide R8).later hbb)
                have V9 := hide ((unhide V8).later hbb)
                have U9 := hide ((unhide U8).later hbb)
                clear hbb B8 G8 X8 R8 V8 U8
                refine hK.out _ _ (unhide G9) (fun hS => ?_)
                clear HS
                have HS := hide hS
                clear hS hK K2
                refine wpAnyH_take (i := 14) (v := .tuple #[.int .i64 zw, .bool qw]) rfl (by kernel_rfl) (by kernel_rfl) (by kernel_rfl) (fun _ _ _ h => h) (Or.inl ⟨by rfl, fun w hc => ?_⟩) (unhide HS) ?_
                · clear hc; go_simp
                go_simp
                refine wpAnyH_take (i := 15) (v := .int .i64 zw) rfl (by kernel_rfl) (by kernel_rfl) (by kernel_rfl) (fun _ _ _ h => h) (Or.inl ⟨by rfl, fun w hc => ?_⟩) (unhide HS) ?_
                · clear hc; go_simp
                go_simp
                refine wpAnyH_take (i := 16) (v := .bool qw) rfl (by kernel_rfl) (by kernel_rfl) (by kernel_rfl) (fun _ _ _ h => h) (Or.inl ⟨by rfl, fun w hc => ?_⟩) (unhide HS) ?_
                · clear hc; go_simp
                go_simp
                refine wpAnyH_take (i := 17) (v := .int .i64 zw) rfl (by kernel_rfl) (by kernel_rfl) (by kernel_rfl) (fun _ _ _ h => h) (Or.inl ⟨by rfl, fun w hc => ?_⟩) (unhide HS) ?_
                · clear hc; go_simp
                go_simp
                refine wpAnyH_take (i := 18) (v := .bool qw) rfl (by kernel_rfl) (by kernel_rfl) (by kernel_rfl) (fun _ _ _ h => h) (Or.inl ⟨by rfl, fun w hc => ?_⟩) (unhide HS) ?_
                · clear hc; go_simp
                go_simp
                refine wpAnyH_done (by kernel_rfl) ?_ _
                refine hM6 _ _ (Met.intro (hJ6 _ _ ?_))
                (repeat apply Exists.intro)
                refine ⟨?_, rfl⟩
                exact ⟨zw, qw, rfl, rfl, unhide HZ, unhide B9⟩
          · go_simp
            have hbb := below_new w5 (.cells #[.string ⟨#[103]⟩, .string ⟨#[104]⟩] 9)
            have U6 := hide (rdu_lit w5)
            have B6 := hide ((unhide B5).trans (hbb.mono (unhide B5).size))
            have G6 := hide (row_keep (unhide G5) hbb)
            have X6 := hide ((unhide X5).later hbb)
            clear hbb B5 G5 X5
            generalize w5.alloc (.cells #[.string ⟨#[103]⟩, .string ⟨#[104]⟩] 9) = w6 at *
            generalize w5.heap.size = gb at *
            refine hK.out _ _ (unhide G6) (fun hS => ?_)
            clear HS
            have HS := hide hS
            clear hS hK K2
            refine wpAnyH_ready (rs := [6, 11]) (by kernel_rfl) (by simp) ?_
            refine AllReadyH.cons rfl (fun K2 hK => ?_) (AllReadyH.cons rfl (fun K2 hK => ?_) AllReadyH.nil)
            · go_simp
              have hbb := below_new w6 (.cells #[.int .i64 ((n2 : Int) * 250), .int .i64 (n3 : Int), .int .i64 9] 3)
              have R7 := hide (show RdN (w6.alloc (.cells #[.int .i64 ((n2 : Int) * 250), .int .i64 (n3 : Int), .int .i64 9] 3)) (some ⟨w6.heap.size, 0, none⟩) [(n2 : Int) * 250, (n3 : Int), 9] from RdN_lit w6 [(n2 : Int) * 250, (n3 : Int), 9])
              have B7 := hide ((unhide B6).trans (hbb.mono (unhide B6).size))
              have G7 := hide (row_keep (unhide G6) hbb)
              have X7 := hide ((unhide X6).later hbb)
              have U7 := hide ((unhide U6).later hbb)
              clear hbb B6 G6 X6 U6
              generalize w6.alloc (.cells #[.int .i64 ((n2 : Int) * 250), .int .i64 (n3 : Int), .int .i64 9] 3) = w7 at *
              generalize w6.heap.size = ga at *
              refine hK.out _ _ (unhide G7) (fun hS => ?_)
              clear HS
              have HS := hide hS
              clear hS hK K2
              refine wpAnyH_ready (rs := [11]) (by kernel_rfl) (by simp) ?_
              refine AllReadyH.cons rfl (fun K2 hK => ?_) AllReadyH.nil
              go_simp
              refine (unhide AT 5 (by omega) w7 (unhide B7)).mono ?_
              rintro r wx ⟨⟨n5, hn5, rfl⟩, hwx⟩
              rw [hwx]
              clear hwx wx
              refine hK.out _ _ (unhide G7) (fun hS => ?_)
              clear HS
              have HS := hide hS
              clear hS hK K2
              refine wpAnyH_ready (rs := [12]) (by kernel_rfl) (by simp) ?_
              refine AllReadyH.cons rfl (fun K2 hK => ?_) AllReadyH.nil
              go_simp
              have hbb := below_new w7 (.cells #[.int .i64 (n4 : Int), .int .i64 (n5 : Int)] 3)
              have V8 := hide (show RdN (w7.alloc (.cells #[.int .i64 (n4 : Int), .int .i64 (n5 : Int)] 3)) (some ⟨w7.heap.size, 0, none⟩) [(n4 : Int), (n5 : Int)] from RdN_lit w7 [(n4 : Int), (n5 : Int)])
              have B8 := hide ((unhide B7).trans (hbb.mono (unhide B7).size))
              have G8 := hide (row_keep (unhide G7) hbb)
              have X8 := hide ((unhide X7).later hbb)
              have U8 := hide ((unhide U7).later hbb)
              have R8 := hide ((unhide R7).later hbb)
              clear hbb B7 G7 X7 U7 R7
              generalize w7.alloc (.cells #[.int .i64 (n4 : Int), .int .i64 (n5 : Int)] 3) = w8 at *
              generalize w7.heap.size = gc at *
              refine hK.out _ _ (unhide G8) (fun hS => ?_)
              clear HS
              have HS := hide hS
              clear hS hK K2
              refine wpAnyH_ready (rs := [13]) (by kernel_rfl) (by simp) ?_
              refine AllReadyH.cons rfl (fun K2 hK => ?_) AllReadyH.nil
              go_simp
              have KW1 := hide (fun n v => unhide KW [(n2 : Int) * 250, (n3 : Int), 9] [(n4 : Int), (n5 : Int)] n v)
              refine (unhide WX [(n2 : Int) * 250, (n3 : Int), 9] [(n4 : Int), (n5 : Int)] w8 (some ⟨ga, 0, none⟩) (some ⟨gb, 0, none⟩) (some ⟨gc, 0, none⟩) rfl rfl (unhide B8) (unhide X8).rd (unhide R8) (unhide U8) (unhide V8)).mono ?_
              rintro r w9 ⟨rfl, hbb⟩
              generalize worthA [(n2 : Int) * 250, (n3 : Int), 9] [⟨#[103]⟩, ⟨#[104]⟩] [(n4 : Int), (n5 : Int)] x = wo at *
              have HZ := hide (show qk = true → wo.isSome = true → wo.getD 0 = zk from fun h1 h2 => by
                obtain ⟨q1, q2⟩ := unhide ZK
                cases ko with
                | none => rw [← q2] at h1; cases h1
                | some n => cases wo with
                  | none => cases h2
                  | some v => rw [← q1]; exact unhide KW1 n v rfl rfl)
              clear KW1
              generalize wo.getD 0 = zw at *
              generalize wo.isSome = qw at *
              have B9 := hide ((unhide B8).trans (hbb.mono (unhide B8).size))
              have G9 := hide (row_keep (unhide G8) hbb)
              have X9 := hide ((unhide X8).later hbb)
              have U9 := hide ((unhide U8).later hbb)
              have R9 := hide ((unhide R8).later hbb)
              have V9 := hide ((unhide V8).later hbb)
              clear hbb B8 G8 X8 U8 R8 V8
              refine hK.out _ _ (unhide G9) (fun hS => ?_)
              clear HS
              have HS := hide hS
              clear hS hK K2
              refine wpAnyH_take (i := 14) (v := .tuple #[.int .i64 zw, .bool qw]) rfl (by kernel_rfl) (by kernel_rfl) (by kernel_rfl) (fun _ _ _ h => h) (Or.inl ⟨by rfl, fun w hc => ?_⟩) (unhide HS) ?_
              · clear hc; go_simp
              go_simp
              refine wpAnyH_take (i := 15) (v := .int .i64 zw) rfl (by kernel_rfl) (by kernel_rfl) (by kernel_rfl) (fun _ _ _ h => h) (Or.inl ⟨by rfl, fun w hc => ?_⟩) (unhide HS) ?_
              · clear hc; go_simp
              go_simp
              refine wpAnyH_take (i := 16) (v := .bool qw) rfl (by kernel_rfl) (by kernel_rfl) (by kernel_rfl) (fun _ _ _ h => h) (Or.inl ⟨by rfl, fun w hc => ?_⟩) (unhide HS) ?_
              · clear hc; go_simp
              go_simp
              refine wpAnyH_take (i := 17) (v := .int .i64 zw) rfl (by kernel_rfl) (by kernel_rfl) (by kernel_rfl) (fun _ _ _ h => h) (Or.inl ⟨by rfl, fun w hc => ?_⟩) (unhide HS) ?_
              · clear hc; go_simp
              go_simp
              refine wpAnyH_take (i := 18) (v := .bool qw) rfl (by kernel_rfl) (by kernel_rfl) (by kernel_rfl) (fun _ _ _ h => h) (Or.inl ⟨by rfl, fun w hc => ?_⟩) (unhide HS) ?_
              · clear hc; go_simp
              go_simp
              refine wpAnyH_done (by kernel_rfl) ?_ _
              refine hM6 _ _ (Met.intro (hJ6 _ _ ?_))
              (repeat apply Exists.intro)
              refine ⟨?_, rfl⟩
              exact ⟨zw, qw, rfl, rfl, unhide HZ, unhide B9⟩
            · go_simp
              refine (unhide AT 5 (by omega) w6 (unhide B6)).mono ?_
              rintro r wx ⟨⟨n5, hn5, rfl⟩, hwx⟩
              rw [hwx]
              clear hwx wx
              refine hK.out _ _ (unhide G6) (fun hS => ?_)
              clear HS
              have HS := hide hS
              clear hS hK K2
              refine wpAnyH_ready (rs := [6, 12]) (by kernel_rfl) (by simp) ?_
              refine AllReadyH.cons rfl (fun K2 hK => ?_) (AllReadyH.cons rfl (fun K2 hK => ?_) AllReadyH.nil)
              · go_simp
                have hbb := below_new w6 (.cells #[.int .i64 ((n2 : Int) * 250), .int .i64 (n3 : Int), .int .i64 9] 3)
                have R7 := hide (show RdN (w6.alloc (.cells #[.int .i64 ((n2 : Int) * 250), .int .i64 (n3 : Int), .int .i64 9] 3)) (some ⟨w6.heap.size, 0, none⟩) [(n2 : Int) * 250, (n3 : Int), 9] from RdN_lit w6 [(n2 : Int) * 250, (n3 : Int), 9])
                have B7 := hide ((unhide B6).trans (hbb.mono (unhide B6).size))
                have G7 := hide (row_keep (unhide G6) hbb)
                have X7 := hide ((unhide X6).later hbb)
                have U7 := hide ((unhide U6).later hbb)
                clear hbb B6 G6 X6 U6
                generalize w6.alloc (.cells #[.int .i64 ((n2 : Int) * 250), .int .i64 (n3 : Int), .int .i64 9] 3) = w7 at *
                generalize w6.heap.size = ga at *
                refine hK.out _ _ (unhide G7) (fun hS => ?_)
                clear HS
                have HS := hide hS
                clear hS hK K2
                refine wpAnyH_ready (rs := [12]) (by kernel_rfl) (by simp) ?_
                refine AllReadyH.cons rfl (fun K2 hK => ?_) AllReadyH.nil
                go_simp
                have hbb := below_new w7 (.cells #[.int .i64 (n4 : Int), .int .i64 (n5 : Int)] 3)
                have V8 := hide (show RdN (w7.alloc (.cells #[.int .i64 (n4 : Int), .int .i64 (n5 : Int)] 3)) (some ⟨w7.heap.size, 0, none⟩) [(n4 : Int), (n5 : Int)] from RdN_lit w7 [(n4 : Int), (n5 : Int)])
                have B8 := hide ((unhide B7).trans (hbb.mono (unhide B7).size))
                have G8 := hide (row_keep (unhide G7) hbb)
                have X8 := hide ((unhide X7).later hbb)
                have U8 := hide ((unhide U7).later hbb)
                have R8 := hide ((unhide R7).later hbb)
                clear hbb B7 G7 X7 U7 R7
                generalize w7.alloc (.cells #[.int .i64 (n4 : Int), .int .i64 (n5 : Int)] 3) = w8 at *
                generalize w7.heap.size = gc at *
                refine hK.out _ _ (unhide G8) (fun hS => ?_)
                clear HS
                have HS := hide hS
                clear hS hK K2
                refine wpAnyH_ready (rs := [13]) (by kernel_rfl) (by simp) ?_
                refine AllReadyH.cons rfl (fun K2 hK => ?_) AllReadyH.nil
                go_simp
                have KW1 := hide (fun n v => unhide KW [(n2 : Int) * 250, (n3 : Int), 9] [(n4 : Int), (n5 : Int)] n v)
                refine (unhide WX [(n2 : Int) * 250, (n3 : Int), 9] [(n4 : Int), (n5 : Int)] w8 (some ⟨ga, 0, none⟩) (some ⟨gb, 0, none⟩) (some ⟨gc, 0, none⟩) rfl rfl (unhide B8) (unhide X8).rd (unhide R8) (unhide U8) (unhide V8)).mono ?_
                rintro r w9 ⟨rfl, hbb⟩
                generalize worthA [(n2 : Int) * 250, (n3 : Int), 9] [⟨#[103]⟩, ⟨#[104]⟩] [(n4 : Int), (n5 : Int)] x = wo at *
                have HZ := hide (show qk = true → wo.isSome = true → wo.getD 0 = zk from fun h1 h2 => by
                  obtain ⟨q1, q2⟩ := unhide ZK
                  cases ko with
                  | none => rw [← q2] at h1; cases h1
                  | some n => cases wo with
                    | none => cases h2
                    | some v => rw [← q1]; exact unhide KW1 n v rfl rfl)
                clear KW1
                generalize wo.getD 0 = zw at *
                generalize wo.isSome = qw at *
                have B9 := hide ((unhide B8).trans (hbb.mono (unhide B8).size))
                have G9 := hide (row_keep (unhide G8) hbb)
                have X9 := hide ((unhide X8).later hbb)
                have U9 := hide ((unhide U8).later hbb)
                have R9 := hide ((unhide R8).later hbb)
                have V9 := hide ((unhide V8).later hbb)
                clear hbb B8 G8 X8 U8 R8 V8
                refine hK.out _ _ (unhide G9) (fun hS => ?_)
                clear HS
                have HS := hide hS
                clear hS hK K2
                refine wpAnyH_take (i := 14) (v := .tuple #[.int .i64 zw, .bool qw]) rfl (by kernel_rfl) (by kernel_rfl) (by kernel_rfl) (fun _ _ _ h => h) (Or.inl ⟨by rfl, fun w hc => ?_⟩) (unhide HS) ?_
                · clear hc; go_simp
                go_simp
                refine wpAnyH_take (i := 15) (v := .int .i64 zw) rfl (by kernel_rfl) (by kernel_rfl) (by kernel_rfl) (fun _ _ _ h => h) (Or.inl ⟨by rfl, fun w hc => ?_⟩) (unhide HS) ?_
                · clear hc; go_simp
                go_simp
                refine wpAnyH_take (i := 16) (v := .bool qw) rfl (by kernel_rfl) (by kernel_rfl) (by kernel_rfl) (fun _ _ _ h => h) (Or.inl ⟨by rfl, fun w hc => ?_⟩) (unhide HS) ?_
                · clear hc; go_simp
                go_simp
                refine wpAnyH_take (i := 17) (v := .int .i64 zw) rfl (by kernel_rfl) (by kernel_rfl) (by kernel_rfl) (fun _ _ _ h => h) (Or.inl ⟨by rfl, fun w hc => ?_⟩) (unhide HS) ?_
                · clear hc; go_simp
                go_simp
                refine wpAnyH_take (i := 18) (v := .bool qw) rfl (by kernel_rfl) (by kernel_rfl) (by kernel_rfl) (fun _ _ _ h => h) (Or.inl ⟨by rfl, fun w hc => ?_⟩) (unhide HS) ?_
                · clear hc; go_simp
                go_simp
                refine wpAnyH_done (by kernel_rfl) ?_ _
                refine hM6 _ _ (Met.intro (hJ6 _ _ ?_))
                (repeat apply Exists.intro)
                refine ⟨?_, rfl⟩
                exact ⟨zw, qw, rfl, rfl, unhide HZ, unhide B9⟩
              · go_simp
                have hbb := below_new w6 (.cells #[.int .i64 (n4 : Int), .int .i64 (n5 : Int)] 3)
                have V7 := hide (show RdN (w6.alloc (.cells #[.int .i64 (n4 : Int), .int .i64 (n5 : Int)] 3)) (some ⟨w6.heap.size, 0, none⟩) [(n4 : Int), (n5 : Int)] from RdN_lit w6 [(n4 : Int), (n5 : Int)])
                have B7 := hide ((unhide B6).trans (hbb.mono (unhide B6).size))
                have G7 := hide (row_keep (unhide G6) hbb)
                have X7 := hide ((unhide X6).later hbb)
                have U7 := hide ((unhide U6).later hbb)
                clear hbb B6 G6 X6 U6
                generalize w6.alloc (.cells #[.int .i64 (n4 : Int), .int .i64 (n5 : Int)] 3) = w7 at *
                generalize w6.heap.size = gc at *
                refine hK.out _ _ (unhide G7) (fun hS => ?_)
                clear HS
                have HS := hide hS
                clear hS hK K2
                refine wpAnyH_ready (rs := [6]) (by kernel_rfl) (by simp) ?_
                refine AllReadyH.cons rfl (fun K2 hK => ?_) AllReadyH.nil
                go_simp
                have hbb := below_new w7 (.cells #[.int .i64 ((n2 : Int) * 250), .int .i64 (n3 : Int), .int .i64 9] 3)
                have R8 := hide (show RdN (w7.alloc (.cells #[.int .i64 ((n2 : Int) * 250), .int .i64 (n3 : Int), .int .i64 9] 3)) (some ⟨w7.heap.size, 0, none⟩) [(n2 : Int) * 250, (n3 : Int), 9] from RdN_lit w7 [(n2 : Int) * 250, (n3 : Int), 9])
                have B8 := hide ((unhide B7).trans (hbb.mono (unhide B7).size))
                have G8 := hide (row_keep (unhide G7) hbb)
                have X8 := hide ((unhide X7).later hbb)
                have U8 := hide ((unhide U7).later hbb)
                have V8 := hide ((unhide V7).later hbb)
                clear hbb B7 G7 X7 U7 V7
                generalize w7.alloc (.cells #[.int .i64 ((n2 : Int) * 250), .int .i64 (n3 : Int), .int .i64 9] 3) = w8 at *
                generalize w7.heap.size = ga at *
                refine hK.out _ _ (unhide G8) (fun hS => ?_)
                clear HS
                have HS := hide hS
                clear hS hK K2
                refine wpAnyH_ready (rs := [13]) (by kernel_rfl) (by simp) ?_
                refine AllReadyH.cons rfl (fun K2 hK => ?_) AllReadyH.nil
                go_simp
                have KW1 := hide (fun n v => unhide KW [(n2 : Int) * 250, (n3 : Int), 9] [(n4 : Int), (n5 : Int)] n v)
                refine (unhide WX [(n2 : Int) * 250, (n3 : Int), 9] [(n4 : Int), (n5 : Int)] w8 (some ⟨ga, 0, none⟩) (some ⟨gb, 0, none⟩) (some ⟨gc, 0, none⟩) rfl rfl (unhide B8) (unhide X8).rd (unhide R8) (unhide U8) (unhide V8)).mono ?_
                rintro r w9 ⟨rfl, hbb⟩
                generalize worthA [(n2 : Int) * 250, (n3 : Int), 9] [⟨#[103]⟩, ⟨#[104]⟩] [(n4 : Int), (n5 : Int)] x = wo at *
                have HZ := hide (show qk = true → wo.isSome = true → wo.getD 0 = zk from fun h1 h2 => by
                  obtain ⟨q1, q2⟩ := unhide ZK
                  cases ko with
                  | none => rw [← q2] at h1; cases h1
                  | some n => cases wo with
                    | none => cases h2
                    | some v => rw [← q1]; exact unhide KW1 n v rfl rfl)
                clear KW1
                generalize wo.getD 0 = zw at *
                generalize wo.isSome = qw at *
                have B9 := hide ((unhide B8).trans (hbb.mono (unhide B8).size))
                have G9 := hide (row_keep (unhide G8) hbb)
                have X9 := hide ((unhide X8).later hbb)
                have U9 := hide ((unhide U8).later hbb)
                have V9 := hide ((unhide V8).later hbb)
                have R9 := hide ((unhide R8).later hbb)
                clear hbb B8 G8 X8 U8 V8 R8
                refine hK.out _ _ (unhide G9) (fun hS => ?_)
                clear HS
                have HS := hide hS
                clear hS hK K2
                refine wpAnyH_take (i := 14) (v := .tuple #[.int .i64 zw, .bool qw]) rfl (by kernel_rfl) (by kernel_rfl) (by kernel_rfl) (fun _ _ _ h => h) (Or.inl ⟨by rfl, fun w hc => ?_⟩) (unhide HS) ?_
                · clear hc; go_simp
                go_simp
                refine wpAnyH_take (i := 15) (v := .int .i64 zw) rfl (by kernel_rfl) (by kernel_rfl) (by kernel_rfl) (fun _ _ _ h => h) (Or.inl ⟨by rfl, fun w hc => ?_⟩) (unhide HS) ?_
                · clear hc; go_simp
                go_simp
                refine wpAnyH_take (i := 16) (v := .bool qw) rfl (by kernel_rfl) (by kernel_rfl) (by kernel_rfl) (fun _ _ _ h => h) (Or.inl ⟨by rfl, fun w hc => ?_⟩) (unhide HS) ?_
                · clear hc; go_simp
                go_simp
                refine wpAnyH_take (i := 17) (v := .int .i64 zw) rfl (by kernel_rfl) (by kernel_rfl) (by kernel_rfl) (fun _ _ _ h => h) (Or.inl ⟨by rfl, fun w hc => ?_⟩) (unhide HS) ?_
                · clear hc; go_simp
                go_simp
                refine wpAnyH_take (i := 18) (v := .bool qw) rfl (by kernel_rfl) (by kernel_rfl) (by kernel_rfl) (fun _ _ _ h => h) (Or.inl ⟨by rfl, fun w hc => ?_⟩) (unhide HS) ?_
                · clear hc; go_simp
                go_simp
                refine wpAnyH_done (by kernel_rfl) ?_ _
                refine hM6 _ _ (Met.intro (hJ6 _ _ ?_))
                (repeat apply Exists.intro)
                refine ⟨?_, rfl⟩
                exact ⟨zw, qw, rfl, rfl, unhide HZ, unhide B9⟩
          · go_simp
            refine (unhide AT 5 (by omega) w5 (unhide B5)).mono ?_
            rintro r wx ⟨⟨n5, hn5, rfl⟩, hwx⟩
            rw [hwx]
            clear hwx wx
            refine hK.out _ _ (unhide G5) (fun hS => ?_)
            clear HS
            have HS := hide hS
            clear hS hK K2
            refine wpAnyH_ready (rs := [6, 7, 12]) (by kernel_rfl) (by simp) ?_
            refine AllReadyH.cons rfl (fun K2 hK => ?_) (AllReadyH.cons rfl (fun K2 hK => ?_) (AllReadyH.cons rfl (fun K2 hK => ?_) AllReadyH.nil))
            · go_simp
              have hbb := below_new w5 (.cells #[.int .i64 ((n2 : Int) * 250), .int .i64 (n3 : Int), .int .i64 9] 3)
              have R6 := hide (show RdN (w5.alloc (.cells #[.int .i64 ((n2 : Int) * 250), .int .i64 (n3 : Int), .int .i64 9] 3)) (some ⟨w5.heap.size, 0, none⟩) [(n2 : Int) * 250, (n3 : Int), 9] from RdN_lit w5 [(n2 : Int) * 250, (n3 : Int), 9])
              have B6 := hide ((unhide B5).trans (hbb.mono (unhide B5).size))
              have G6 := hide (row_keep (unhide G5) hbb)
              have X6 := hide ((unhide X5).later hbb)
              clear hbb B5 G5 X5
              generalize w5.alloc (.cells #[.int .i64 ((n2 : Int) * 250), .int .i64 (n3 : Int), .int .i64 9] 3) = w6 at *
              generalize w5.heap.size = ga at *
              refine hK.out _ _ (unhide G6) (fun hS => ?_)
              clear HS
              have HS := hide hS
              clear hS hK K2
              refine wpAnyH_ready (rs := [7, 12]) (by kernel_rfl) (by simp) ?_
              refine AllReadyH.cons rfl (fun K2 hK => ?_) (AllReadyH.cons rfl (fun K2 hK => ?_) AllReadyH.nil)
              · go_simp
                have hbb := below_new w6 (.cells #[.string ⟨#[103]⟩, .string ⟨#[104]⟩] 9)
                have U7 := hide (rdu_lit w6)
                have B7 := hide ((unhide B6).trans (hbb.mono (unhide B6).size))
                have G7 := hide (row_keep (unhide G6) hbb)
                have X7 := hide ((unhide X6).later hbb)
                have R7 := hide ((unhide R6).later hbb)
                clear hbb B6 G6 X6 R6
                generalize w6.alloc (.cells #[.string ⟨#[103]⟩, .string ⟨#[104]⟩] 9) = w7 at *
                generalize w6.heap.size = gb at *
                refine hK.out _ _ (unhide G7) (fun hS => ?_)
                clear HS
                have HS := hide hS
                clear hS hK K2
                refine wpAnyH_ready (rs := [12]) (by kernel_rfl) (by simp) ?_
                refine AllReadyH.cons rfl (fun K2 hK => ?_) AllReadyH.nil
                go_simp
                have hbb := below_new w7 (.cells #[.int .i64 (n4 : Int), .int .i64 (n5 : Int)] 3)
                have V8 := hide (show RdN (w7.alloc (.cells #[.int .i64 (n4 : Int), .int .i64 (n5 : Int)] 3)) (some ⟨w7.heap.size, 0, none⟩) [(n4 : Int), (n5 : Int)] from RdN_lit w7 [(n4 : Int), (n5 : Int)])
                have B8 := hide ((unhide B7).trans (hbb.mono (unhide B7).size))
                have G8 := hide (row_keep (unhide G7) hbb)
                have X8 := hide ((unhide X7).later hbb)
                have R8 := hide ((unhide R7).later hbb)
                have U8 := hide ((unhide U7).later hbb)
                clear hbb B7 G7 X7 R7 U7
                generalize w7.alloc (.cells #[.int .i64 (n4 : Int), .int .i64 (n5 : Int)] 3) = w8 at *
                generalize w7.heap.size = gc at *
                refine hK.out _ _ (unhide G8) (fun hS => ?_)
                clear HS
                have HS := hide hS
                clear hS hK K2
                refine wpAnyH_ready (rs := [13]) (by kernel_rfl) (by simp) ?_
                refine AllReadyH.cons rfl (fun K2 hK => ?_) AllReadyH.nil
                go_simp
                have KW1 := hide (fun n v => unhide KW [(n2 : Int) * 250, (n3 : Int), 9] [(n4 : Int), (n5 : Int)] n v)
                refine (unhide WX [(n2 : Int) * 250, (n3 : Int), 9] [(n4 : Int), (n5 : Int)] w8 (some ⟨ga, 0, none⟩) (some ⟨gb, 0, none⟩) (some ⟨gc, 0, none⟩) rfl rfl (unhide B8) (unhide X8).rd (unhide R8) (unhide U8) (unhide V8)).mono ?_
                rintro r w9 ⟨rfl, hbb⟩
                generalize worthA [(n2 : Int) * 250, (n3 : Int), 9] [⟨#[103]⟩, ⟨#[104]⟩] [(n4 : Int), (n5 : Int)] x = wo at *
                have HZ := hide (show qk = true → wo.isSome = true → wo.getD 0 = zk from fun h1 h2 => by
                  obtain ⟨q1, q2⟩ := unhide ZK
                  cases ko with
                  | none => rw [← q2] at h1; cases h1
                  | some n => cases wo with
                    | none => cases h2
                    | some v => rw [← q1]; exact unhide KW1 n v rfl rfl)
                clear KW1
                generalize wo.getD 0 = zw at *
                generalize wo.isSome = qw at *
                have B9 := hide ((unhide B8).trans (hbb.mono (unhide B8).size))
                have G9 := hide (row_keep (unhide G8) hbb)
                have X9 := hide ((unhide X8).later hbb)
                have R9 := hide ((unhide R8).later hbb)
                have U9 := hide ((unhide U8).later hbb)
                have V9 := hide ((unhide V8).later hbb)
                clear hbb B8 G8 X8 R8 U8 V8
                refine hK.out _ _ (unhide G9) (fun hS => ?_)
                clear HS
                have HS := hide hS
                clear hS hK K2
                refine wpAnyH_take (i := 14) (v := .tuple #[.int .i64 zw, .bool qw]) rfl (by kernel_rfl) (by kernel_rfl) (by kernel_rfl) (fun _ _ _ h => h) (Or.inl ⟨by rfl, fun w hc => ?_⟩) (unhide HS) ?_
                · clear hc; go_simp
                go_simp
                refine wpAnyH_take (i := 15) (v := .int .i64 zw) rfl (by kernel_rfl) (by kernel_rfl) (by kernel_rfl) (fun _ _ _ h => h) (Or.inl ⟨by rfl, fun w hc => ?_⟩) (unhide HS) ?_
                · clear hc; go_simp
                go_simp
                refine wpAnyH_take (i := 16) (v := .bool qw) rfl (by kernel_rfl) (by kernel_rfl) (by kernel_rfl) (fun _ _ _ h => h) (Or.inl ⟨by rfl, fun w hc => ?_⟩) (unhide HS) ?_
                · clear hc; go_simp
                go_simp
                refine wpAnyH_take (i := 17) (v := .int .i64 zw) rfl (by kernel_rfl) (by kernel_rfl) (by kernel_rfl) (fun _ _ _ h => h) (Or.inl ⟨by rfl, fun w hc => ?_⟩) (unhide HS) ?_
                · clear hc; go_simp
                go_simp
                refine wpAnyH_take (i := 18) (v := .bool qw) rfl (by kernel_rfl) (by kernel_rfl) (by kernel_rfl) (fun _ _ _ h => h) (Or.inl ⟨by rfl, fun w hc => ?_⟩) (unhide HS) ?_
                · clear hc; go_simp
                go_simp
                refine wpAnyH_done (by kernel_rfl) ?_ _
                refine hM6 _ _ (Met.intro (hJ6 _ _ ?_))
                (repeat apply Exists.intro)
                refine ⟨?_, rfl⟩
                exact ⟨zw, qw, rfl, rfl, unhide HZ, unhide B9⟩
              · go_simp
                have hbb := below_new w6 (.cells #[.int .i64 (n4 : Int), .int .i64 (n5 : Int)] 3)
                have V7 := hide (show RdN (w6.alloc (.cells #[.int .i64 (n4 : Int), .int .i64 (n5 : Int)] 3)) (some ⟨w6.heap.size, 0, none⟩) [(n4 : Int), (n5 : Int)] from RdN_lit w6 [(n4 : Int), (n5 : Int)])
                have B7 := hide ((unhide B6).trans (hbb.mono (unhide B6).size))
                have G7 := hide (row_keep (unhide G6) hbb)
                have X7 := hide ((unhide X6).later hbb)
                have R7 := hide ((unhide R6).later hbb)
                clear hbb B6 G6 X6 R6
                generalize w6.alloc (.cells #[.int .i64 (n4 : Int), .int .i64 (n5 : Int)] 3) = w7 at *
                generalize w6.heap.size = gc at *
                refine hK.out _ _ (unhide G7) (fun hS => ?_)
                clear HS
                have HS := hide hS
                clear hS hK K2
                refine wpAnyH_ready (rs := [7]) (by kernel_rfl) (by simp) ?_
                refine AllReadyH.cons rfl (fun K2 hK => ?_) AllReadyH.nil
                go_simp
                have hbb := below_new w7 (.cells #[.string ⟨#[103]⟩, .string ⟨#[104]⟩] 9)
                have U8 := hide (rdu_lit w7)
                have B8 := hide ((unhide B7).trans (hbb.mono (unhide B7).size))
                have G8 := hide (row_keep (unhide G7) hbb)
                have X8 := hide ((unhide X7).later hbb)
                have R8 := hide ((unhide R7).later hbb)
                have V8 := hide ((unhide V7).later hbb)
                clear hbb B7 G7 X7 R7 V7
                generalize w7.alloc (.cells #[.string ⟨#[103]⟩, .string ⟨#[104]⟩] 9) = w8 at *
                generalize w7.heap.size = gb at *
                refine hK.out _ _ (unhide G8) (fun hS => ?_)
                clear HS
                have HS := hide hS
                clear hS hK K2
                refine wpAnyH_ready (rs := [13]) (by kernel_rfl) (by simp) ?_
                refine AllReadyH.cons rfl (fun K2 hK => ?_) AllReadyH.nil
                go_simp
                have KW1 := hide (fun n v => unhide KW [(n2 : Int) * 250, (n3 : Int), 9] [(n4 : Int), (n5 : Int)] n v)
                refine (unhide WX [(n2 : Int) * 250, (n3 : Int), 9] [(n4 : Int), (n5 : Int)] w8 (some ⟨ga, 0, none⟩) (some ⟨gb, 0, none⟩) (some ⟨gc, 0, none⟩) rfl rfl (unhide B8) (unhide X8).rd (unhide R8) (unhide U8) (unhide V8)).mono ?_
                rintro r w9 ⟨rfl, hbb⟩
                generalize worthA [(n2 : Int) * 250, (n3 : Int), 9] [⟨#[103]⟩, ⟨#[104]⟩] [(n4 : Int), (n5 : Int)] x = wo at *
                have HZ := hide (show qk = true → wo.isSome = true → wo.getD 0 = zk from fun h1 h2 => by
                  obtain ⟨q1, q2⟩ := unhide ZK
                  cases ko with
                  | none => rw [← q2] at h1; cases h1
                  | some n => cases wo with
                    | none => cases h2
                    | some v => rw [← q1]; exact unhide KW1 n v rfl rfl)
                clear KW1
                generalize wo.getD 0 = zw at *
                generalize wo.isSome = qw at *
                have B9 := hide ((unhide B8).trans (hbb.mono (unhide B8).size))
                have G9 := hide (row_keep (unhide G8) hbb)
                have X9 := hide ((unhide X8).later hbb)
                have R9 := hide ((unhide R8).later hbb)
                have V9 := hide ((unhide V8).later hbb)
                have U9 := hide ((unhide U8).later hbb)
                clear hbb B8 G8 X8 R8 V8 U8
                refine hK.out _ _ (unhide G9) (fun hS => ?_)
                clear HS
                have HS := hide hS
                clear hS hK K2
                refine wpAnyH_take (i := 14) (v := .tuple #[.int .i64 zw, .bool qw]) rfl (by kernel_rfl) (by kernel_rfl) (by kernel_rfl) (fun _ _ _ h => h) (Or.inl ⟨by rfl, fun w hc => ?_⟩) (unhide HS) ?_
                · clear hc; go_simp
                go_simp
                refine wpAnyH_take (i := 15) (v := .int .i64 zw) rfl (by kernel_rfl) (by kernel_rfl) (by kernel_rfl) (fun _ _ _ h => h) (Or.inl ⟨by rfl, fun w hc => ?_⟩) (unhide HS) ?_
                · clear hc; go_simp
                go_simp
                refine wpAnyH_take (i := 16) (v := .bool qw) rfl (by kernel_rfl) (by kernel_rfl) (by kernel_rfl) (fun _ _ _ h => h) (Or.inl ⟨by rfl, fun w hc => ?_⟩) (unhide HS) ?_
                · clear hc; go_simp
                go_simp
                refine wpAnyH_take (i := 17) (v := .int .i64 zw) rfl (by kernel_rfl) (by kernel_rfl) (by kernel_rfl) (fun _ _ _ h => h) (Or.inl ⟨by rfl, fun w hc => ?_⟩) (unhide HS) ?_
                · clear hc; go_simp
                go_simp
                refine wpAnyH_take (i := 18) (v := .bool qw) rfl (by kernel_rfl) (by kernel_rfl) (by kernel_rfl) (fun _ _ _ h => h) (Or.inl ⟨by rfl, fun w hc => ?_⟩) (unhide HS) ?_
                · clear hc; go_simp
                go_simp
                refine wpAnyH_done (by kernel_rfl) ?_ _
                refine hM6 _ _ (Met.intro (hJ6 _ _ ?_))
                (repeat apply Exists.intro)
                refine ⟨?_, rfl⟩
                exact ⟨zw, qw, rfl, rfl, unhide HZ, unhide B9⟩
            · go_simp
              have hbb := below_new w5 (.cells #[.string ⟨#[103]⟩, .string ⟨#[104]⟩] 9)
              have U6 := hide (rdu_lit w5)
              have B6 := hide ((unhide B5).trans (hbb.mono (unhide B5).size))
              have G6 := hide (row_keep (unhide G5) hbb)
              have X6 := hide ((unhide X5).later hbb)
              clear hbb B5 G5 X5
              generalize w5.alloc (.cells #[.string ⟨#[103]⟩, .string ⟨#[104]⟩] 9) = w6 at *
              generalize w5.heap.size = gb at *
              refine hK.out _ _ (unhide G6) (fun hS => ?_)
              clear HS
              have HS := hide hS
              clear hS hK K2
              refine wpAnyH_ready (rs := [6, 12]) (by kernel_rfl) (by simp) ?_
              refine AllReadyH.cons rfl (fun K2 hK => ?_) (AllReadyH.cons rfl (fun K2 hK => ?_) AllReadyH.nil)
              · go_simp
                have hbb := below_new w6 (.cells #[.int .i64 ((n2 : Int) * 250), .int .i64 (n3 : Int), .int .i64 9] 3)
                have R7 := hide (show RdN (w6.alloc (.cells #[.int .i64 ((n2 : Int) * 250), .int .i64 (n3 : Int), .int .i64 9] 3)) (some ⟨w6.heap.size, 0, none⟩) [(n2 : Int) * 250, (n3 : Int), 9] from RdN_lit w6 [(n2 : Int) * 250, (n3 : Int), 9])
                have B7 := hide ((unhide B6).trans (hbb.mono (unhide B6).size))
                have G7 := hide (row_keep (unhide G6) hbb)
                have X7 := hide ((unhide X6).later hbb)
                have U7 := hide ((unhide U6).later hbb)
                clear hbb B6 G6 X6 U6
                generalize w6.alloc (.cells #[.int .i64 ((n2 : Int) * 250), .int .i64 (n3 : Int), .int .i64 9] 3) = w7 at *
                generalize w6.heap.size = ga at *
                refine hK.out _ _ (unhide G7) (fun hS => ?_)
                clear HS
                have HS := hide hS
                clear hS hK K2
                refine wpAnyH_ready (rs := [12]) (by kernel_rfl) (by simp) ?_
                refine AllReadyH.cons rfl (fun K2 hK => ?_) AllReadyH.nil
                go_simp
                have hbb := below_new w7 (.cells #[.int .i64 (n4 : Int), .int .i64 (n5 : Int)] 3)
                have V8 := hide (show RdN (w7.alloc (.cells #[.int .i64 (n4 : Int), .int .i64 (n5 : Int)] 3)) (some ⟨w7.heap.size, 0, none⟩) [(n4 : Int), (n5 : Int)] from RdN_lit w7 [(n4 : Int), (n5 : Int)])
                have B8 := hide ((unhide B7).trans (hbb.mono (unhide B7).size))
                have G8 := hide (row_keep (unhide G7) hbb)
                have X8 := hide ((unhide X7).later hbb)
                have U8 := hide ((unhide U7).later hbb)
                have R8 := hide ((unhide R7).later hbb)
                clear hbb B7 G7 X7 U7 R7
                generalize w7.alloc (.cells #[.int .i64 (n4 : Int), .int .i64 (n5 : Int)] 3) = w8 at *
                generalize w7.heap.size = gc at *
                refine hK.out _ _ (unhide G8) (fun hS => ?_)
                clear HS
                have HS := hide hS
                clear hS hK K2
                refine wpAnyH_ready (rs := [13]) (by kernel_rfl) (by simp) ?_
                refine AllReadyH.cons rfl (fun K2 hK => ?_) AllReadyH.nil
                go_simp
                have KW1 := hide (fun n v => unhide KW [(n2 : Int) * 250, (n3 : Int), 9] [(n4 : Int), (n5 : Int)] n v)
                refine (unhide WX [(n2 : Int) * 250, (n3 : Int), 9] [(n4 : Int), (n5 : Int)] w8 (some ⟨ga, 0, none⟩) (some ⟨gb, 0, none⟩) (some ⟨gc, 0, none⟩) rfl rfl (unhide B8) (unhide X8).rd (unhide R8) (unhide U8) (unhide V8)).mono ?_
                rintro r w9 ⟨rfl, hbb⟩
                generalize worthA [(n2 : Int) * 250, (n3 : Int), 9] [⟨#[103]⟩, ⟨#[104]⟩] [(n4 : Int), (n5 : Int)] x = wo at *
                have HZ := hide (show qk = true → wo.isSome = true → wo.getD 0 = zk from fun h1 h2 => by
                  obtain ⟨q1, q2⟩ := unhide ZK
                  cases ko with
                  | none => rw [← q2] at h1; cases h1
                  | some n => cases wo with
                    | none => cases h2
                    | some v => rw [← q1]; exact unhide KW1 n v rfl rfl)
                clear KW1
                generalize wo.getD 0 = zw at *
                generalize wo.isSome = qw at *
                have B9 := hide ((unhide B8).trans (hbb.mono (unhide B8).size))
                have G9 := hide (row_keep (unhide G8) hbb)
                have X9 := hide ((unhide X8).later hbb)
                have U9 := hide ((unhide U8).later hbb)
                have R9 := hide ((unhide R8).later hbb)
                have V9 := hide ((unhide V8).later hbb)
                clear hbb B8 G8 X8 U8 R8 V8
                refine hK.out _ _ (unhide G9) (fun hS => ?_)
                clear HS
                have HS := hide hS
                clear hS hK K2
                refine wpAnyH_take (i := 14) (v := .tuple #[.int .i64 zw, .bool qw]) rfl (by kernel_rfl) (by kernel_rfl) (by kernel_rfl) (fun _ _ _ h => h) (Or.inl ⟨by rfl, fun w hc => ?_⟩) (unhide HS) ?_
                · clear hc; go_simp
                go_simp
                refine wpAnyH_take (i := 15) (v := .int .i64 zw) rfl (by kernel_rfl) (by kernel_rfl) (by kernel_rfl) (fun _ _ _ h => h) (Or.inl ⟨by rfl, fun w hc => ?_⟩) (unhide HS) ?_
                · clear hc; go_simp
                go_simp
                refine wpAnyH_take (i := 16) (v := .bool qw) rfl (by kernel_rfl) (by kernel_rfl) (by kernel_rfl) (fun _ _ _ h => h) (Or.inl ⟨by rfl, fun w hc => ?_⟩) (unhide HS) ?_
                · clear hc; go_simp
                go_simp
                refine wpAnyH_take (i := 17) (v := .int .i64 zw) rfl (by kernel_rfl) (by kernel_rfl) (by kernel_rfl) (fun _ _ _ h => h) (Or.inl ⟨by rfl, fun w hc => ?_⟩) (unhide HS) ?_
                · clear hc; go_simp
                go_simp
                refine wpAnyH_take (i := 18) (v := .bool qw) rfl (by kernel_rfl) (by kernel_rfl) (by kernel_rfl) (fun _ _ _ h => h) (Or.inl ⟨by rfl, fun w hc => ?_⟩) (unhide HS) ?_
                · clear hc; go_simp
                go_simp
                refine wpAnyH_done (by kernel_rfl) ?_ _
                refine hM6 _ _ (Met.intro (hJ6 _ _ ?_))
                (repeat apply Exists.intro)
                refine ⟨?_, rfl⟩
                exact ⟨zw, qw, rfl, rfl, unhide HZ, unhide B9⟩
              · go_simp
                have hbb := below_new w6 (.cells #[.int .i64 (n4 : Int), .int .i64 (n5 : Int)] 3)
                have V7 := hide (show RdN (w6.alloc (.cells #[.int .i64 (n4 : Int), .int .i64 (n5 : Int)] 3)) (some ⟨w6.heap.size, 0, none⟩) [(n4 : Int), (n5 : Int)] from RdN_lit w6 [(n4 : Int), (n5 : Int)])
                have B7 := hide ((unhide B6).trans (hbb.mono (unhide B6).size))
                have G7 := hide (row_keep (unhide G6) hbb)
                have X7 := hide ((unhide X6).later hbb)
                have U7 := hide ((unhide U6).later hbb)
                clear hbb B6 G6 X6 U6
                generalize w6.alloc (.cells #[.int .i64 (n4 : Int), .int .i64 (n5 : Int)] 3) = w7 at *
                generalize w6.heap.size = gc at *
                refine hK.out _ _ (unhide G7) (fun hS => ?_)
                clear HS
                have HS := hide hS
                clear hS hK K2
                refine wpAnyH_ready (rs := [6]) (by kernel_rfl) (by simp) ?_
                refine AllReadyH.cons rfl (fun K2 hK => ?_) AllReadyH.nil
                go_simp
                have hbb := below_new w7 (.cells #[.int .i64 ((n2 : Int) * 250), .int .i64 (n3 : Int), .int .i64 9] 3)
                have R8 := hide (show RdN (w7.alloc (.cells #[.int .i64 ((n2 : Int) * 250), .int .i64 (n3 : Int), .int .i64 9] 3)) (some ⟨w7.heap.size, 0, none⟩) [(n2 : Int) * 250, (n3 : Int), 9] from RdN_lit w7 [(n2 : Int) * 250, (n3 : Int), 9])
                have B8 := hide ((unhide B7).trans (hbb.mono (unhide B7).size))
                have G8 := hide (row_keep (unhide G7) hbb)
                have X8 := hide ((unhide X7).later hbb)
                have U8 := hide ((unhide U7).later hbb)
                have V8 := hide ((unhide V7).later hbb)
                clear hbb B7 G7 X7 U7 V7
                generalize w7.alloc (.cells #[.int .i64 ((n2 : Int) * 250), .int .i64 (n3 : Int), .int .i64 9] 3) = w8 at *
                generalize w7.heap.size = ga at *
                refine hK.out _ _ (unhide G8) (fun hS => ?_)
                clear HS
                have HS := hide hS
                clear hS hK K2
                refine wpAnyH_ready (rs := [13]) (by kernel_rfl) (by simp) ?_
                refine AllReadyH.cons rfl (fun K2 hK => ?_) AllReadyH.nil
                go_simp
                have KW1 := hide (fun n v => unhide KW [(n2 : Int) * 250, (n3 : Int), 9] [(n4 : Int), (n5 : Int)] n v)
                refine (unhide WX [(n2 : Int) * 250, (n3 : Int), 9] [(n4 : Int), (n5 : Int)] w8 (some ⟨ga, 0, none⟩) (some ⟨gb, 0, none⟩) (some ⟨gc, 0, none⟩) rfl rfl (unhide B8) (unhide X8).rd (unhide R8) (unhide U8) (unhide V8)).mono ?_
                rintro r w9 ⟨rfl, hbb⟩
                generalize worthA [(n2 : Int) * 250, (n3 : Int), 9] [⟨#[103]⟩, ⟨#[104]⟩] [(n4 : Int), (n5 : Int)] x = wo at *
                have HZ := hide (show qk = true → wo.isSome = true → wo.getD 0 = zk from fun h1 h2 => by
                  obtain ⟨q1, q2⟩ := unhide ZK
                  cases ko with
                  | none => rw [← q2] at h1; cases h1
                  | some n => cases wo with
                    | none => cases h2
                    | some v => rw [← q1]; exact unhide KW1 n v rfl rfl)
                clear KW1
                generalize wo.getD 0 = zw at *
                generalize wo.isSome = qw at *
                have B9 := hide ((unhide B8).trans (hbb.mono (unhide B8).size))
                have G9 := hide (row_keep (unhide G8) hbb)
                have X9 := hide ((unhide X8).later hbb)
                have U9 := hide ((unhide U8).later hbb)
                have V9 := hide ((unhide V8).later hbb)
                have R9 := hide ((unhide R8).later hbb)
                clear hbb B8 G8 X8 U8 V8 R8
                refine hK.out _ _ (unhide G9) (fun hS => ?_)
                clear HS
                have HS := hide hS
                clear hS hK K2
                refine wpAnyH_take (i := 14) (v := .tuple #[.int .i64 zw, .bool qw]) rfl (by kernel_rfl) (by kernel_rfl) (by kernel_rfl) (fun _ _ _ h => h) (Or.inl ⟨by rfl, fun w hc => ?_⟩) (unhide HS) ?_
                · clear hc; go_simp
                go_simp
                refine wpAnyH_take (i := 15) (v := .int .i64 zw) rfl (by kernel_rfl) (by kernel_rfl) (by kernel_rfl) (fun _ _ _ h => h) (Or.inl ⟨by rfl, fun w hc => ?_⟩) (unhide HS) ?_
                · clear hc; go_simp
                go_simp
                refine wpAnyH_take (i := 16) (v := .bool qw) rfl (by kernel_rfl) (by kernel_rfl) (by kernel_rfl) (fun _ _ _ h => h) (Or.inl ⟨by rfl, fun w hc => ?_⟩) (unhide HS) ?_
                · clear hc; go_simp
                go_simp
                refine wpAnyH_take (i := 17) (v := .int .i64 zw) rfl (by kernel_rfl) (by kernel_rfl) (by kernel_rfl) (fun _ _ _ h => h) (Or.inl ⟨by rfl, fun w hc => ?_⟩) (unhide HS) ?_
                · clear hc; go_simp
                go_simp
                refine wpAnyH_take (i := 18) (v := .bool qw) rfl (by kernel_rfl) (by kernel_rfl) (by kernel_rfl) (fun _ _ _ h => h) (Or.inl ⟨by rfl, fun w hc => ?_⟩) (unhide HS) ?_
                · clear hc; go_simp
                go_simp
                refine wpAnyH_done (by kernel_rfl) ?_ _
                refine hM6 _ _ (Met.intro (hJ6 _ _ ?_))
                (repeat apply Exists.intro)
                refine ⟨?_, rfl⟩
                exact ⟨zw, qw, rfl, rfl, unhide HZ, unhide B9⟩
            · go_simp
              have hbb := below_new w5 (.cells #[.int .i64 (n4 : Int), .int .i64 (n5 : Int)] 3)
              have V6 := hide (show RdN (w5.alloc (.cells #[.int .i64 (n4 : Int), .int .i64 (n5 : Int)] 3)) (some ⟨w5.heap.size, 0, none⟩) [(n4 : Int), (n5 : Int)] from RdN_lit w5 [(n4 : Int), (n5 : Int)])
              have B6 := hide ((unhide B5).trans (hbb.mono (unhide B5).size))
              have G6 := hide (row_keep (unhide G5) hbb)
              have X6 := hide ((unhide X5).later hbb)
              clear hbb B5 G5 X5
              generalize w5.alloc (.cells #[.int .i64 (n4 : Int), .int .i64 (n5 : Int)] 3) = w6 at *
              generalize w5.heap.size = gc at *
              refine hK.out _ _ (unhide G6) (fun hS => ?_)
              clear HS
              have HS := hide hS
              clear hS hK K2
              refine wpAnyH_ready (rs := [6, 7]) (by kernel_rfl) (by simp) ?_
              refine AllReadyH.cons rfl (fun K2 hK => ?_) (AllReadyH.cons rfl (fun K2 hK => ?_) AllReadyH.nil)
              · go_simp
                have hbb := below_new w6 (.cells #[.int .i64 ((n2 : Int) * 250), .int .i64 (n3 : Int), .int .i64 9] 3)
                have R7 := hide (show RdN (w6.alloc (.cells #[.int .i64 ((n2 : Int) * 250), .int .i64 (n3 : Int), .int .i64 9] 3)) (some ⟨w6.heap.size, 0, none⟩) [(n2 : Int) * 250, (n3 : Int), 9] from RdN_lit w6 [(n2 : Int) * 250, (n3 : Int), 9])
                have B7 := hide ((unhide B6).trans (hbb.mono (unhide B6).size))
                have G7 := hide (row_keep (unhide G6) hbb)
                have X7 := hide ((unhide X6).later hbb)
                have V7 := hide ((unhide V6).later hbb)
                clear hbb B6 G6 X6 V6
                generalize w6.alloc (.cells #[.int .i64 ((n2 : Int) * 250), .int .i64 (n3 : Int), .int .i64 9] 3) = w7 at *
                generalize w6.heap.size = ga at *
                refine hK.out _ _ (unhide G7) (fun hS => ?_)
                clear HS
                have HS := hide hS
                clear hS hK K2
                refine wpAnyH_ready (rs := [7]) (by kernel_rfl) (by simp) ?_
                refine AllReadyH.cons rfl (fun K2 hK => ?_) AllReadyH.nil
                go_simp
                have hbb := below_new w7 (.cells #[.string ⟨#[103]⟩, .string ⟨#[104]⟩] 9)
                have U8 := hide (rdu_lit w7)
                have B8 := hide ((unhide B7).trans (hbb.mono (unhide B7).size))
                have G8 := hide (row_keep (unhide G7) hbb)
                have X8 := hide ((unhide X7).later hbb)
                have V8 := hide ((unhide V7).later hbb)
                have R8 := hide ((unhide R7).later hbb)
                clear hbb B7 G7 X7 V7 R7
                generalize w7.alloc (.cells #[.string ⟨#[103]⟩, .string ⟨#[104]⟩] 9) = w8 at *
                generalize w7.heap.size = gb at *
                refine hK.out _ _ (unhide G8) (fun hS => ?_)
                clear HS
                have HS := hide hS
                clear hS hK K2
                refine wpAnyH_ready (rs := [13]) (by kernel_rfl) (by simp) ?_
                refine AllReadyH.cons rfl (fun K2 hK => ?_) AllReadyH.nil
                go_simp
                have KW1 := hide (fun n v => unhide KW [(n2 : Int) * 250, (n3 : Int), 9] [(n4 : Int), (n5 : Int)] n v)
                refine (unhide WX [(n2 : Int) * 250, (n3 : Int), 9] [(n4 : Int), (n5 : Int)] w8 (some ⟨ga, 0, none⟩) (some ⟨gb, 0, none⟩) (some ⟨gc, 0, none⟩) rfl rfl (unhide B8) (unhide X8).rd (unhide R8) (unhide U8) (unhide V8)).mono ?_
                rintro r w9 ⟨rfl, hbb⟩
                generalize worthA [(n2 : Int) * 250, (n3 : Int), 9] [⟨#[103]⟩, ⟨#[104]⟩] [(n4 : Int), (n5 : Int)] x = wo at *
                have HZ := hide (show qk = true → wo.isSome = true → wo.getD 0 = zk from fun h1 h2 => by
                  obtain ⟨q1, q2⟩ := unhide ZK
                  cases ko with
                  | none => rw [← q2] at h1; cases h1
                  | some n => cases wo with
                    | none => cases h2
                    | some v => rw [← q1]; exact unhide KW1 n v rfl rfl)
                clear KW1
                generalize wo.getD 0 = zw at *
                generalize wo.isSome = qw at *
                have B9 := hide ((unhide B8).trans (hbb.mono (unhide B8).size))
                have G9 := hide (row_keep (unhide G8) hbb)
                have X9 := hide ((unhide X8).later hbb)
                have V9 := hide ((unhide V8).later hbb)
                have R9 := hide ((unhide R8).later hbb)
                have U9 := hide ((unhide U8).later hbb)
                clear hbb B8 G8 X8 V8 R8 U8
                refine hK.out _ _ (unhide G9) (fun hS => ?_)
                clear HS
                have HS := hide hS
                clear hS hK K2
                refine wpAnyH_take (i := 14) (v := .tuple #[.int .i64 zw, .bool qw]) rfl (by kernel_rfl) (by kernel_rfl) (by kernel_rfl) (fun _ _ _ h => h) (Or.inl ⟨by rfl, fun w hc => ?_⟩) (unhide HS) ?_
                · clear hc; go_simp
                go_simp
                refine wpAnyH_take (i := 15) (v := .int .i64 zw) rfl (by kernel_rfl) (by kernel_rfl) (by kernel_rfl) (fun _ _ _ h => h) (Or.inl ⟨by rfl, fun w hc => ?_⟩) (unhide HS) ?_
                · clear hc; go_simp
                go_simp
                refine wpAnyH_take (i := 16) (v := .bool qw) rfl (by kernel_rfl) (by kernel_rfl) (by kernel_rfl) (fun _ _ _ h => h) (Or.inl ⟨by rfl, fun w hc => ?_⟩) (unhide HS) ?_
                · clear hc; go_simp
                go_simp
                refine wpAnyH_take (i := 17) (v := .int .i64 zw) rfl (by kernel_rfl) (by kernel_rfl) (by kernel_rfl) (fun _ _ _ h => h) (Or.inl ⟨by rfl, fun w hc => ?_⟩) (unhide HS) ?_
                · clear hc; go_simp
                go_simp
                refine wpAnyH_take (i := 18) (v := .bool qw) rfl (by kernel_rfl) (by kernel_rfl) (by kernel_rfl) (fun _ _ _ h => h) (Or.inl ⟨by rfl, fun w hc => ?_⟩) (unhide HS) ?_
                · clear hc; go_simp
                go_simp
                refine wpAnyH_done (by kernel_rfl) ?_ _
                refine hM6 _ _ (Met.intro (hJ6 _ _ ?_))
                (repeat apply Exists.intro)
                refine ⟨?_, rfl⟩
                exact ⟨zw, qw, rfl, rfl, unhide HZ, unhide B9⟩
              · go_simp
                have hbb := below_new w6 (.cells #[.string ⟨#[103]⟩, .string ⟨#[104]⟩] 9)
                have U7 := hide (rdu_lit w6)
                have B7 := hide ((unhide B6).trans (hbb.mono (unhide B6).size))
                have G7 := hide (row_keep (unhide G6) hbb)
                have X7 := hide ((unhide X6).later hbb)
                have V7 := hide ((unhide V6).later hbb)
                clear hbb B6 G6 X6 V6
                generalize w6.alloc (.cells #[.string ⟨#[103]⟩, .string ⟨#[104]⟩] 9) = w7 at *
                generalize w6.heap.size = gb at *
                refine hK.out _ _ (unhide G7) (fun hS => ?_)
                clear HS
                have HS := hide hS
                clear hS hK K2
                refine wpAnyH_ready (rs := [6]) (by kernel_rfl) (by simp) ?_
                refine AllReadyH.cons rfl (fun K2 hK => ?_) AllReadyH.nil
                go_simp
                have hbb := below_new w7 (.cells #[.int .i64 ((n2 : Int) * 250), .int .i64 (n3 : Int), .int .i64 9] 3)
                have R8 := hide (show RdN (w7.alloc (.cells #[.int .i64 ((n2 : Int) * 250), .int .i64 (n3 : Int), .int .i64 9] 3)) (some ⟨w7.heap.size, 0, none⟩) [(n2 : Int) * 250, (n3 : Int), 9] from RdN_lit w7 [(n2 : Int) * 250, (n3 : Int), 9])
                have B8 := hide ((unhide B7).trans (hbb.mono (unhide B7).size))
                have G8 := hide (row_keep (unhide G7) hbb)
                have X8 := hide ((unhide X7).later hbb)
                have V8 := hide ((unhide V7).later hbb)
                have U8 := hide ((unhide U7).later hbb)
                clear hbb B7 G7 X7 V7 U7
                generalize w7.alloc (.cells #[.int .i64 ((n2 : Int) * 250), .int .i64 (n3 : Int), .int .i64 9] 3) = w8 at *
                generalize w7.heap.size = ga at *
                refine hK.out _ _ (unhide G8) (fun hS => ?_)
                clear HS
                have HS := hide hS
                clear hS hK K2
                refine wpAnyH_ready (rs := [13]) (by kernel_rfl) (by simp) ?_
                refine AllReadyH.cons rfl (fun K2 hK => ?_) AllReadyH.nil
                go_simp
                have KW1 := hide (fun n v => unhide KW [(n2 : Int) * 250, (n3 : Int), 9] [(n4 : Int), (n5 : Int)] n v)
                refine (unhide WX [(n2 : Int) * 250, (n3 : Int), 9] [(n4 : Int), (n5 : Int)] w8 (some ⟨ga, 0, none⟩) (some ⟨gb, 0, none⟩) (some ⟨gc, 0, none⟩) rfl rfl (unhide B8) (unhide X8).rd (unhide R8) (unhide U8) (unhide V8)).mono ?_
                rintro r w9 ⟨rfl, hbb⟩
                generalize worthA [(n2 : Int) * 250, (n3 : Int), 9] [⟨#[103]⟩, ⟨#[104]⟩] [(n4 : Int), (n5 : Int)] x = wo at *
                have HZ := hide (show qk = true → wo.isSome = true → wo.getD 0 = zk from fun h1 h2 => by
                  obtain ⟨q1, q2⟩ := unhide ZK
                  cases ko with
                  | none => rw [← q2] at h1; cases h1
                  | some n => cases wo with
                    | none => cases h2
                    | some v => rw [← q1]; exact unhide KW1 n v rfl rfl)
                clear KW1
                generalize wo.getD 0 = zw at *
                generalize wo.isSome = qw at *
                have B9 := hide ((unhide B8).trans (hbb.mono (unhide B8).size))
                have G9 := hide (row_keep (unhide G8) hbb)
                have X9 := hide ((unhide X8).later hbb)
                have V9 := hide ((unhide V8).later hbb)
                have U9 := hide ((unhide U8).later hbb)
                have R9 := hide ((unhide R8).later hbb)
                clear hbb B8 G8 X8 V8 U8 R8
                refine hK.out _ _ (unhide G9) (fun hS => ?_)
                clear HS
                have HS := hide hS
                clear hS hK K2
                refine wpAnyH_take (i := 14) (v := .tuple #[.int .i64 zw, .bool qw]) rfl (by kernel_rfl) (by kernel_rfl) (by kernel_rfl) (fun _ _ _ h => h) (Or.inl ⟨by rfl, fun w hc => ?_⟩) (unhide HS) ?_
                · clear hc; go_simp
                go_simp
                refine wpAnyH_take (i := 15) (v := .int .i64 zw) rfl (by kernel_rfl) (by kernel_rfl) (by kernel_rfl) (fun _ _ _ h => h) (Or.inl ⟨by rfl, fun w hc => ?_⟩) (unhide HS) ?_
                · clear hc; go_simp
                go_simp
                refine wpAnyH_take (i := 16) (v := .bool qw) rfl (by kernel_rfl) (by kernel_rfl) (by kernel_rfl) (fun _ _ _ h => h) (Or.inl ⟨by rfl, fun w hc => ?_⟩) (unhide HS) ?_
                · clear hc; go_simp
                go_simp
                refine wpAnyH_take (i := 17) (v := .int .i64 zw) rfl (by kernel_rfl) (by kernel_rfl) (by kernel_rfl) (fun _ _ _ h => h) (Or.inl ⟨by rfl, fun w hc => ?_⟩) (unhide HS) ?_
                · clear hc; go_simp
                go_simp
                refine wpAnyH_take (i := 18) (v := .bool qw) rfl (by kernel_rfl) (by kernel_rfl) (by kernel_rfl) (fun _ _ _ h => h) (Or.inl ⟨by rfl, fun w hc => ?_⟩) (unhide HS) ?_
                · clear hc; go_simp
                go_simp
                refine wpAnyH_done (by kernel_rfl) ?_ _
                refine hM6 _ _ (Met.intro (hJ6 _ _ ?_))
                (repeat apply Exists.intro)
                refine ⟨?_, rfl⟩
                exact ⟨zw, qw, rfl, rfl, unhide HZ, unhide B9⟩
      · go_simp
        have hbb := below_new w5 (.cells #[.string ⟨#[103]⟩, .string ⟨#[104]⟩] 9)
        have U6 := hide (rdu_lit w5)
        have B6 := hide ((unhide B5).trans (hbb.mono (unhide B5).size))
        have G6 := hide (row_keep (unhide G5) hbb)
        have X6 := hide ((unhide X5).later hbb)
        clear hbb B5 G5 X5
        generalize w5.alloc (.cells #[.string ⟨#[103]⟩, .string ⟨#[104]⟩] 9) = w6 at *
        generalize w5.heap.size = gb at *
        refine hK.out _ _ (unhide G6) (fun hS => ?_)
        clear HS
        have HS := hide hS
        clear hS hK K2
        refine wpAnyH_ready (rs := [5]) (by kernel_rfl) (by simp) ?_
        refine AllReadyH.cons rfl (fun K2 hK => ?_) AllReadyH.nil
        go_simp
        refine (unhide AT 3 (by omega) w6 (unhide B6)).mono ?_
        rintro r wx ⟨⟨n3, hn3, rfl⟩, hwx⟩
        rw [hwx]
        clear hwx wx
        refine hK.out _ _ (unhide G6) (fun hS => ?_)
        clear HS
        have HS := hide hS
        clear hS hK K2
        refine wpAnyH_ready (rs := [6, 9]) (by kernel_rfl) (by simp) ?_
        refine AllReadyH.cons rfl (fun K2 hK => ?_) (AllReadyH.cons rfl (fun K2 hK => ?_) AllReadyH.nil)
        · go_simp
          have hbb := below_new w6 (.cells #[.int .i64 ((n2 : Int) * 250), .int .i64 (n3 : Int), .int .i64 9] 3)
          have R7 := hide (show RdN (w6.alloc (.cells #[.int .i64 ((n2 : Int) * 250), .int .i64 (n3 : Int), .int .i64 9] 3)) (some ⟨w6.heap.size, 0, none⟩) [(n2 : Int) * 250, (n3 : Int), 9] from RdN_lit w6 [(n2 : Int) * 250, (n3 : Int), 9])
          have B7 := hide ((unhide B6).trans (hbb.mono (unhide B6).size))
          have G7 := hide (row_keep (unhide G6) hbb)
          have X7 := hide ((unhide X6).later hbb)
          have U7 := hide ((unhide U6).later hbb)
          clear hbb B6 G6 X6 U6
          generalize w6.alloc (.cells #[.int .i64 ((n2 : Int) * 250), .int .i64 (n3 : Int), .int .i64 9] 3) = w7 at *
          generalize w6.heap.size = ga at *
          refine hK.out _ _ (unhide G7) (fun hS => ?_)
          clear HS
          have HS := hide hS
          clear hS hK K2
          refine wpAnyH_ready (rs := [9]) (by kernel_rfl) (by simp) ?_
          refine AllReadyH.cons rfl (fun K2 hK => ?_) AllReadyH.nil
          go_simp
          refine (unhide AT 4 (by omega) w7 (unhide B7)).mono ?_
          rintro r wx ⟨⟨n4, hn4, rfl⟩, hwx⟩
          rw [hwx]
          clear hwx wx
          refine hK.out _ _ (unhide G7) (fun hS => ?_)
          clear HS
          have HS := hide hS
          clear hS hK K2
          refine wpAnyH_ready (rs := [11]) (by kernel_rfl) (by simp) ?_
          refine AllReadyH.cons rfl (fun K2 hK => ?_) AllReadyH.nil
          go_simp
          refine (unhide AT 5 (by omega) w7 (unhide B7)).mono ?_
          rintro r wx ⟨⟨n5, hn5, rfl⟩, hwx⟩
          rw [hwx]
          clear hwx wx
          refine hK.out _ _ (unhide G7) (fun hS => ?_)
          clear HS
          have HS := hide hS
          clear hS hK K2
          refine wpAnyH_ready (rs := [12]) (by kernel_rfl) (by simp) ?_
          refine AllReadyH.cons rfl (fun K2 hK => ?_) AllReadyH.nil
          go_simp
          have hbb := below_new w7 (.cells #[.int .i64 (n4 : Int), .int .i64 (n5 : Int)] 3)
          have V8 := hide (show RdN (w7.alloc (.cells #[.int .i64 (n4 : Int), .int .i64 (n5 : Int)] 3)) (some ⟨w7.heap.size, 0, none⟩) [(n4 : Int), (n5 : Int)] from RdN_lit w7 [(n4 : Int), (n5 : Int)])
          have B8 := hide ((unhide B7).trans (hbb.mono (unhide B7).size))
          have G8 := hide (row_keep (unhide G7) hbb)
          have X8 := hide ((unhide X7).later hbb)
          have U8 := hide ((unhide U7).later hbb)
          have R8 := hide ((unhide R7).later hbb)
          clear hbb B7 G7 X7 U7 R7
          generalize w7.alloc (.cells #[.int .i64 (n4 : Int), .int .i64 (n5 : Int)] 3) = w8 at *
          generalize w7.heap.size = gc at *
          refine hK.out _ _ (unhide G8) (fun hS => ?_)
          clear HS
          have HS := hide hS
          clear hS hK K2
          refine wpAnyH_ready (rs := [13]) (by kernel_rfl) (by simp) ?_
          refine AllReadyH.cons rfl (fun K2 hK => ?_) AllReadyH.nil
          go_simp
          have KW1 := hide (fun n v => unhide KW [(n2 : Int) * 250, (n3 : Int), 9] [(n4 : Int), (n5 : Int)] n v)
          refine (unhide WX [(n2 : Int) * 250, (n3 : Int), 9] [(n4 : Int), (n5 : Int)] w8 (some ⟨ga, 0, none⟩) (some ⟨gb, 0, none⟩) (some ⟨gc, 0, none⟩) rfl rfl (unhide B8) (unhide X8).rd (unhide R8) (unhide U8) (unhide V8)).mono ?_
          rintro r w9 ⟨rfl, hbb⟩
          generalize worthA [(n2 : Int) * 250, (n3 : Int), 9] [⟨#[103]⟩, ⟨#[104]⟩] [(n4 : Int), (n5 : Int)] x = wo at *
          have HZ := hide (show qk = true → wo.isSome = true → wo.getD 0 = zk from fun h1 h2 => by
            obtain ⟨q1, q2⟩ := unhide ZK
            cases ko with
            | none => rw [← q2] at h1; cases h1
            | some n => cases wo with
              | none => cases h2
              | some v => rw [← q1]; exact unhide KW1 n v rfl rfl)
          clear KW1
          generalize wo.getD 0 = zw at *
          generalize wo.isSome = qw at *
          have B9 := hide ((unhide B8).trans (hbb.mono (unhide B8).size))
          have G9 := hide (row_keep (unhide G8) hbb)
          have X9 := hide ((unhide X8).later hbb)
          have U9 := hide ((unhide U8).later hbb)
          have R9 := hide ((unhide R8).later hbb)
          have V9 := hide ((unhide V8).later hbb)
          clear hbb B8 G8 X8 U8 R8 V8
          refine hK.out _ _ (unhide G9) (fun hS => ?_)
          clear HS
          have HS := hide hS
          clear hS hK K2
          refine wpAnyH_take (i := 14) (v := .tuple #[.int .i64 zw, .bool qw]) rfl (by kernel_rfl) (by kernel_rfl) (by kernel_rfl) (fun _ _ _ h => h) (Or.inl ⟨by rfl, fun w hc => ?_⟩) (unhide HS) ?_
          · clear hc; go_simp
          go_simp
          refine wpAnyH_take (i := 15) (v := .int .i64 zw) rfl (by kernel_rfl) (by kernel_rfl) (by kernel_rfl) (fun _ _ _ h => h) (Or.inl ⟨by rfl, fun w hc => ?_⟩) (unhide HS) ?_
          · clear hc; go_simp
          go_simp
          refine wpAnyH_take (i := 16) (v := .bool qw) rfl (by kernel_rfl) (by kernel_rfl) (by kernel_rfl) (fun _ _ _ h => h) (Or.inl ⟨by rfl, fun w hc => ?_⟩) (unhide HS) ?_
          · clear hc; go_simp
          go_simp
          refine wpAnyH_take (i := 17) (v := .int .i64 zw) rfl (by kernel_rfl) (by kernel_rfl) (by kernel_rfl) (fun _ _ _ h => h) (Or.inl ⟨by rfl, fun w hc => ?_⟩) (unhide HS) ?_
          · clear hc; go_simp
          go_simp
          refine wpAnyH_take (i := 18) (v := .bool qw) rfl (by kernel_rfl) (by kernel_rfl) (by kernel_rfl) (fun _ _ _ h => h) (Or.inl ⟨by rfl, fun w hc => ?_⟩) (unhide HS) ?_
          · clear hc; go_simp
          go_simp
          refine wpAnyH_done (by kernel_rfl) ?_ _
          refine hM6 _ _ (Met.intro (hJ6 _ _ ?_))
          (repeat apply Exists.intro)
          refine ⟨?_, rfl⟩
          exact ⟨zw, qw, rfl, rfl, unhide HZ, unhide B9⟩
        · go_simp
          refine (unhide AT 4 (by omega) w6 (unhide B6)).mono ?_
          rintro r wx ⟨⟨n4, hn4, rfl⟩, hwx⟩
          rw [hwx]
          clear hwx wx
          refine hK.out _ _ (unhide G6) (fun hS => ?_)
          clear HS
          have HS := hide hS
          clear hS hK K2
          refine wpAnyH_ready (rs := [6, 11]) (by kernel_rfl) (by simp) ?_
          refine AllReadyH.cons rfl (fun K2 hK => ?_) (AllReadyH.cons rfl (fun K2 hK => ?_) AllReadyH.nil)
          · go_simp
            have hbb := below_new w6 (.cells #[.int .i64 ((n2 : Int) * 250), .int .i64 (n3 : Int), .int .i64 9] 3)
            have R7 := hide (show RdN (w6.alloc (.cells #[.int .i64 ((n2 : Int) * 250), .int .i64 (n3 : Int), .int .i64 9] 3)) (some ⟨w6.heap.size, 0, none⟩) [(n2 : Int) * 250, (n3 : Int), 9] from RdN_lit w6 [(n2 : Int) * 250, (n3 : Int), 9])
            have B7 := hide ((unhide B6).trans (hbb.mono (unhide B6).size))
            have G7 := hide (row_keep (unhide G6) hbb)
            have X7 := hide ((unhide X6).later hbb)
            have U7 := hide ((unhide U6).later hbb)
            clear hbb B6 G6 X6 U6
            generalize w6.alloc (.cells #[.int .i64 ((n2 : Int) * 250), .int .i64 (n3 : Int), .int .i64 9] 3) = w7 at *
            generalize w6.heap.size = ga at *
            refine hK.out _ _ (unhide G7) (fun hS => ?_)
            clear HS
            have HS := hide hS
            clear hS hK K2
            refine wpAnyH_ready (rs := [11]) (by kernel_rfl) (by simp) ?_
            refine AllReadyH.cons rfl (fun K2 hK => ?_) AllReadyH.nil
            go_simp
            refine (unhide AT 5 (by omega) w7 (unhide B7)).mono ?_
            rintro r wx ⟨⟨n5, hn5, rfl⟩, hwx⟩
            rw [hwx]
            clear hwx wx
            refine hK.out _ _ (unhide G7) (fun hS => ?_)
            clear HS
            have HS := hide hS
            clear hS hK K2
            refine wpAnyH_ready (rs := [12]) (by kernel_rfl) (by simp) ?_
            refine AllReadyH.cons rfl (fun K2 hK => ?_) AllReadyH.nil
            go_simp
            have hbb := below_new w7 (.cells #[.int .i64 (n4 : Int), .int .i64 (n5 : Int)] 3)
            have V8 := hide (show RdN (w7.alloc (.cells #[.int .i64 (n4 : Int), .int .i64 (n5 : Int)] 3)) (some ⟨w7.heap.size, 0, none⟩) [(n4 : Int), (n5 : Int)] from RdN_lit w7 [(n4 : Int), (n5 : Int)])
            have B8 := hide ((unhide B7).trans (hbb.mono (unhide B7).size))
            have G8 := hide (row_keep (unhide G7) hbb)
            have X8 := hide ((unhide X7).later hbb)
            have U8 := hide ((unhide U7).later hbb)
            have R8 := hide ((unhide R7).later hbb)
            clear hbb B7 G7 X7 U7 R7
            generalize w7.alloc (.cells #[.int .i64 (n4 : Int), .int .i64 (n5 : Int)] 3) = w8 at *
            generalize w7.heap.size = gc at *
            refine hK.out _ _ (unhide G8) (fun hS => ?_)
            clear HS
            have HS := hide hS
            clear hS hK K2
            refine wpAnyH_ready (rs := [13]) (by kernel_rfl) (by simp) ?_
            refine AllReadyH.cons rfl (fun K2 hK => ?_) AllReadyH.nil
            go_simp
            have KW1 := hide (fun n v => unhide KW [(n2 : Int) * 250, (n3 : Int), 9] [(n4 : Int), (n5 : Int)] n v)
            refine (unhide WX [(n2 : Int) * 250, (n3 : Int), 9] [(n4 : Int), (n5 : Int)] w8 (some ⟨ga, 0, none⟩) (some ⟨gb, 0, none⟩) (some ⟨gc, 0, none⟩) rfl rfl (unhide B8) (unhide X8).rd (unhide R8) (unhide U8) (unhide V8)).mono ?_
            rintro r w9 ⟨rfl, hbb⟩
            generalize worthA [(n2 : Int) * 250, (n3 : Int), 9] [⟨#[103]⟩, ⟨#[104]⟩] [(n4 : Int), (n5 : Int)] x = wo at *
            have HZ := hide (show qk = true → wo.isSome = true → wo.getD 0 = zk from fun h1 h2 => by
              obtain ⟨q1, q2⟩ := unhide ZK
              cases ko with
              | none => rw [← q2] at h1; cases h1
              | some n => cases wo with
                | none => cases h2
                | some v => rw [← q1]; exact unhide KW1 n v rfl rfl)
            clear KW1
            generalize wo.getD 0 = zw at *
            generalize wo.isSome = qw at *
            have B9 := hide ((unhide B8).trans (hbb.mono (unhide B8).size))
            have G9 := hide (row_keep (unhide G8) hbb)
            have X9 := hide ((unhide X8).later hbb)
            have U9 := hide ((unhide U8).later hbb)
            have R9 := hide ((unhide R8).later hbb)
            have V9 := hide ((unhide V8).later hbb)
            clear hbb B8 G8 X8 U8 R8 V8
            refine hK.out _ _ (unhide G9) (fun hS => ?_)
            clear HS
            have HS := hide hS
            clear hS hK K2
            refine wpAnyH_take (i := 14) (v := .tuple #[.int .i64 zw, .bool qw]) rfl (by kernel_rfl) (by kernel_rfl) (by kernel_rfl) (fun _ _ _ h => h) (Or.inl ⟨by rfl, fun w hc => ?_⟩) (unhide HS) ?_
            · clear hc; go_simp
            go_simp
            refine wpAnyH_take (i := 15) (v := .int .i64 zw) rfl (by kernel_rfl) (by kernel_rfl) (by kernel_rfl) (fun _ _ _ h => h) (Or.inl ⟨by rfl, fun w hc => ?_⟩) (unhide HS) ?_
            · clear hc; go_simp
            go_simp
            refine wpAnyH_take (i := 16) (v := .bool qw) rfl (by kernel_rfl) (by kernel_rfl) (by kernel_rfl) (fun _ _ _ h => h) (Or.inl ⟨by rfl, fun w hc => ?_⟩) (unhide HS) ?_
            · clear hc; go_simp
            go_simp
            refine wpAnyH_take (i := 17) (v := .int .i64 zw) rfl (by kernel_rfl) (by kernel_rfl) (by kernel_rfl) (fun _ _ _ h => h) (Or.inl ⟨by rfl, fun w hc => ?_⟩) (unhide HS) ?_
            · clear hc; go_simp
            go_simp
            refine wpAnyH_take (i := 18) (v := .bool qw) rfl (by kernel_rfl) (by kernel_rfl) (by kernel_rfl) (fun _ _ _ h => h) (Or.inl ⟨by rfl, fun w hc => ?_⟩) (unhide HS) ?_
            · clear hc; go_simp
            go_simp
            refine wpAnyH_done (by kernel_rfl) ?_ _
            refine hM6 _ _ (Met.intro (hJ6 _ _ ?_))
            (repeat apply Exists.intro)
            refine ⟨?_, rfl⟩
            exact ⟨zw, qw, rfl, rfl, unhide HZ, unhide B9⟩
          · go_simp
            refine (unhide AT 5 (by omega) w6 (unhide B6)).mono ?_
            rintro r wx ⟨⟨n5, hn5, rfl⟩, hwx⟩
            rw [hwx]
            clear hwx wx
            refine hK.out _ _ (unhide G6) (fun hS => ?_)
            clear HS
            have HS := hide hS
            clear hS hK K2
            refine wpAnyH_ready (rs := [6, 12]) (by kernel_rfl) (by simp) ?_
            refine AllReadyH.cons rfl (fun K2 hK => ?_) (AllReadyH.cons rfl (fun K2 hK => ?_) AllReadyH.nil)
            · go_simp
              have hbb := below_new w6 (.cells #[.int .i64 ((n2 : Int) * 250), .int .i64 (n3 : Int), .int .i64 9] 3)
              have R7 := hide (show RdN (w6.alloc (.cells #[.int .i64 ((n2 : Int) * 250), .int .i64 (n3 : Int), .int .i64 9] 3)) (some ⟨w6.heap.size, 0, none⟩) [(n2 : Int) * 250, (n3 : Int), 9] from RdN_lit w6 [(n2 : Int) * 250, (n3 : Int), 9])
              have B7 := hide ((unhide B6).trans (hbb.mono (unhide B6).size))
              have G7 := hide (row_keep (unhide G6) hbb)
              have X7 := hide ((unhide X6).later hbb)
              have U7 := hide ((unhide U6).later hbb)
              clear hbb B6 G6 X6 U6
              generalize w6.alloc (.cells #[.int .i64 ((n2 : Int) * 250), .int .i64 (n3 : Int), .int .i64 9] 3) = w7 at *
              generalize w6.heap.size = ga at *
              refine hK.out _ _ (unhide G7) (fun hS => ?_)
              clear HS
              have HS := hide hS
              clear hS hK K2
              refine wpAnyH_ready (rs := [12]) (by kernel_rfl) (by simp) ?_
              refine AllReadyH.cons rfl (fun K2 hK => ?_) AllReadyH.nil
              go_simp
              have hbb := below_new w7 (.cells #[.int .i64 (n4 : Int), .int .i64 (n5 : Int)] 3)
              have V8 := hide (show RdN (w7.alloc (.cells #[.int .i64 (n4 : Int), .int .i64 (n5 : Int)] 3)) (some ⟨w7.heap.size, 0, none⟩) [(n4 : Int), (n5 : Int)] from RdN_lit w7 [(n4 : Int), (n5 : Int)])
              have B8 := hide ((unhide B7).trans (hbb.mono (unhide B7).size))
              have G8 := hide (row_keep (unhide G7) hbb)
              have X8 := hide ((unhide X7).later hbb)
              have U8 := hide ((unhide U7).later hbb)
              have R8 := hide ((unhide R7).later hbb)
              clear hbb B7 G7 X7 U7 R7
              generalize w7.alloc (.cells #[.int .i64 (n4 : Int), .int .i64 (n5 : Int)] 3) = w8 at *
              generalize w7.heap.size = gc at *
              refine hK.out _ _ (unhide G8) (fun hS => ?_)
              clear HS
              have HS := hide hS
              clear hS hK K2
              refine wpAnyH_ready (rs := [13]) (by kernel_rfl) (by simp) ?_
              refine AllReadyH.cons rfl (fun K2 hK => ?_) AllReadyH.nil
              go_simp
              have KW1 := hide (fun n v => unhide KW [(n2 : Int) * 250, (n3 : Int), 9] [(n4 : Int), (n5 : Int)] n v)
              refine (unhide WX [(n2 : Int) * 250, (n3 : Int), 9] [(n4 : Int), (n5 : Int)] w8 (some ⟨ga, 0, none⟩) (some ⟨gb, 0, none⟩) (some ⟨gc, 0, none⟩) rfl rfl (unhide B8) (unhide X8).rd (unhide R8) (unhide U8) (unhide V8)).mono ?_
              rintro r w9 ⟨rfl, hbb⟩
              generalize worthA [(n2 : Int) * 250, (n3 : Int), 9] [⟨#[103]⟩, ⟨#[104]⟩] [(n4 : Int), (n5 : Int)] x = wo at *
              have HZ := hide (show qk = true → wo.isSome = true → wo.getD 0 = zk from fun h1 h2 => by
                obtain ⟨q1, q2⟩ := unhide ZK
                cases ko with
                | none => rw [← q2] at h1; cases h1
                | some n => cases wo with
                  | none => cases h2
                  | some v => rw [← q1]; exact unhide KW1 n v rfl rfl)
              clear KW1
              generalize wo.getD 0 = zw at *
              generalize wo.isSome = qw at *
              have B9 := hide ((unhide B8).trans (hbb.mono (unhide B8).size))
              have G9 := hide (row_keep (unhide G8) hbb)
              have X9 := hide ((unhide X8).later hbb)
              have U9 := hide ((unhide U8).later hbb)
              have R9 := hide ((unhide R8).later hbb)
              have V9 := hide ((unhide V8).later hbb)
              clear hbb B8 G8 X8 U8 R8 V8
              refine hK.out _ _ (unhide G9) (fun hS => ?_)
              clear HS
              have HS := hide hS
              clear hS hK K2
              refine wpAnyH_take (i := 14) (v := .tuple #[.int .i64 zw, .bool qw]) rfl (by kernel_rfl) (by kernel_rfl) (by kernel_rfl) (fun _ _ _ h => h) (Or.inl ⟨by rfl, fun w hc => ?_⟩) (unhide HS) ?_
              · clear hc; go_simp
              go_simp
              refine wpAnyH_take (i := 15) (v := .int .i64 zw) rfl (by kernel_rfl) (by kernel_rfl) (by kernel_rfl) (fun _ _ _ h => h) (Or.inl ⟨by rfl, fun w hc => ?_⟩) (unhide HS) ?_
              · clear hc; go_simp
              go_simp
              refine wpAnyH_take (i := 16) (v := .bool qw) rfl (by kernel_rfl) (by kernel_rfl) (by kernel_rfl) (fun _ _ _ h => h) (Or.inl ⟨by rfl, fun w hc => ?_⟩) (unhide HS) ?_
              · clear hc; go_simp
              go_simp
              refine wpAnyH_take (i := 17) (v := .int .i64 zw) rfl (by kernel_rfl) (by kernel_rfl) (by kernel_rfl) (fun _ _ _ h => h) (Or.inl ⟨by rfl, fun w hc => ?_⟩) (unhide HS) ?_
              · clear hc; go_simp
              go_simp
              refine wpAnyH_take (i := 18) (v := .bool qw) rfl (by kernel_rfl) (by kernel_rfl) (by kernel_rfl) (fun _ _ _ h => h) (Or.inl ⟨by rfl, fun w hc => ?_⟩) (unhide HS) ?_
              · clear hc; go_simp
              go_simp
              refine wpAnyH_done (by kernel_rfl) ?_ _
              refine hM6 _ _ (Met.intro (hJ6 _ _ ?_))
              (repeat apply Exists.intro)
              refine ⟨?_, rfl⟩
              exact ⟨zw, qw, rfl, rfl, unhide HZ, unhide B9⟩
            · go_simp
              have hbb := below_new w6 (.cells #[.int .i64 (n4 : Int), .int .i64 (n5 : Int)] 3)
              have V7 := hide (show RdN (w6.alloc (.cells #[.int .i64 (n4 : Int), .int .i64 (n5 : Int)] 3)) (some ⟨w6.heap.size, 0, none⟩) [(n4 : Int), (n5 : Int)] from RdN_lit w6 [(n4 : Int), (n5 : Int)])
              have B7 := hide ((unhide B6).trans (hbb.mono (unhide B6).size))
              have G7 := hide (row_keep (unhide G6) hbb)
              have X7 := hide ((unhide X6).later hbb)
              have U7 := hide ((unhide U6).later hbb)
              clear hbb B6 G6 X6 U6
              generalize w6.alloc (.cells #[.int .i64 (n4 : Int), .int .i64 (n5 : Int)] 3) = w7 at *
              generalize w6.heap.size = gc at *
              refine hK.out _ _ (unhide G7) (fun hS => ?_)
              clear HS
              have HS := hide hS
              clear hS hK K2
              refine wpAnyH_ready (rs := [6]) (by kernel_rfl) (by simp) ?_
              refine AllReadyH.cons rfl (fun K2 hK => ?_) AllReadyH.nil
              go_simp
              have hbb := below_new w7 (.cells #[.int .i64 ((n2 : Int) * 250), .int .i64 (n3 : Int), .int .i64 9] 3)
              have R8 := hide (show RdN (w7.alloc (.cells #[.int .i64 ((n2 : Int) * 250), .int .i64 (n3 : Int), .int .i64 9] 3)) (some ⟨w7.heap.size, 0, none⟩) [(n2 : Int) * 250, (n3 : Int), 9] from RdN_lit w7 [(n2 : Int) * 250, (n3 : Int), 9])
              have B8 := hide ((unhide B7).trans (hbb.mono (unhide B7).size))
              have G8 := hide (row_keep (unhide G7) hbb)
              have X8 := hide ((unhide X7).later hbb)
              have U8 := hide ((unhide U7).later hbb)
              have V8 := hide ((unhide V7).later hbb)
              clear hbb B7 G7 X7 U7 V7
              generalize w7.alloc (.cells #[.int .i64 ((n2 : Int) * 250), .int .i64 (n3 : Int), .int .i64 9] 3) = w8 at *
              generalize w7.heap.size = ga at *
              refine hK.out _ _ (unhide G8) (fun hS => ?_)
              clear HS
              have HS := hide hS
              clear hS hK K2
              refine wpAnyH_ready (rs := [13]) (by kernel_rfl) (by simp) ?_
              refine AllReadyH.cons rfl (fun K2 hK => ?_) AllReadyH.nil
              go_simp
              have KW1 := hide (fun n v => unhide KW [(n2 : Int) * 250, (n3 : Int), 9] [(n4 : Int), (n5 : Int)] n v)
              refine (unhide WX [(n2 : Int) * 250, (n3 : Int), 9] [(n4 : Int), (n5 : Int)] w8 (some ⟨ga, 0, none⟩) (some ⟨gb, 0, none⟩) (some ⟨gc, 0, none⟩) rfl rfl (unhide B8) (unhide X8).rd (unhide R8) (unhide U8) (unhide V8)).mono ?_
              rintro r w9 ⟨rfl, hbb⟩
              generalize worthA [(n2 : Int) * 250, (n3 : Int), 9] [⟨#[103]⟩, ⟨#[104]⟩] [(n4 : Int), (n5 : Int)] x = wo at *
              have HZ := hide (show qk = true → wo.isSome = true → wo.getD 0 = zk from fun h1 h2 => by
                obtain ⟨q1, q2⟩ := unhide ZK
                cases ko with
                | none => rw [← q2] at h1; cases h1
                | some n => cases wo with
                  | none => cases h2
                  | some v => rw [← q1]; exact unhide KW1 n v rfl rfl)
              clear KW1
              generalize wo.getD 0 = zw at *
              generalize wo.isSome = qw at *
              have B9 := hide ((unhide B8).trans (hbb.mono (unhide B8).size))
              have G9 := hide (row_keep (unhide G8) hbb)
              have X9 := hide ((unhide X8).later hbb)
              have U9 := hide ((unhide U8).later hbb)
              have V9 := hide ((unhide V8).later hbb)
              have R9 := hide ((unhide R8).later hbb)
              clear hbb B8 G8 X8 U8 V8 R8
              refine hK.out _ _ (unhide G9) (fun hS => ?_)
              clear HS
              have HS := hide hS
              clear hS hK K2
              refine wpAnyH_take (i := 14) (v := .tuple #[.int .i64 zw, .bool qw]) rfl (by kernel_rfl) (by kernel_rfl) (by kernel_rfl) (fun _ _ _ h => h) (Or.inl ⟨by rfl, fun w hc => ?_⟩) (unhide HS) ?_
              · clear hc; go_simp
              go_simp
              refine wpAnyH_take (i := 15) (v := .int .i64 zw) rfl (by kernel_rfl) (by kernel_rfl) (by kernel_rfl) (fun _ _ _ h => h) (Or.inl ⟨by rfl, fun w hc => ?_⟩) (unhide HS) ?_
              · clear hc; go_simp
              go_simp
              refine wpAnyH_take (i := 16) (v := .bool qw) rfl (by kernel_rfl) (by kernel_rfl) (by kernel_rfl) (fun _ _ _ h => h) (Or.inl ⟨by rfl, fun w hc => ?_⟩) (unhide HS) ?_
              · clear hc; go_simp
              go_simp
              refine wpAnyH_take (i := 17) (v := .int .i64 zw) rfl (by kernel_rfl) (by kernel_rfl) (by kernel_rfl) (fun _ _ _ h => h) (Or.inl ⟨by rfl, fun w hc => ?_⟩) (unhide HS) ?_
              · clear hc; go_simp
              go_simp
              refine wpAnyH_take (i := 18) (v := .bool qw) rfl (by kernel_rfl) (by kernel_rfl) (by kernel_rfl) (fun _ _ _ h => h) (Or.inl ⟨by rfl, fun w hc => ?_⟩) (unhide HS) ?_
              · clear hc; go_simp
              go_simp
              refine wpAnyH_done (by kernel_rfl) ?_ _
              refine hM6 _ _ (Met.intro (hJ6 _ _ ?_))
              (repeat apply Exists.intro)
              refine ⟨?_, rfl⟩
              exact ⟨zw, qw, rfl, rfl, unhide HZ, unhide B9⟩
    · go_simp
      have hbb := below_new w5 (.cells #[.string ⟨#[103]⟩, .string ⟨#[104]⟩] 9)
      have U6 := hide (rdu_lit w5)
      have B6 := hide ((unhide B5).trans (hbb.mono (unhide B5).size))
      have G6 := hide (row_keep (unhide G5) hbb)
      have X6 := hide ((unhide X5).later hbb)
      clear hbb B5 G5 X5
      generalize w5.alloc (.cells #[.string ⟨#[103]⟩, .string ⟨#[104]⟩] 9) = w6 at *
      generalize w5.heap.size = gb at *
      refine hK.out _ _ (unhide G6) (fun hS => ?_)
      clear HS
      have HS := hide hS
      clear hS hK K2
      refine wpAnyH_ready (rs := [2]) (by kernel_rfl) (by simp) ?_
      refine AllReadyH.cons rfl (fun K2 hK => ?_) AllReadyH.nil
      go_simp
      refine (unhide AT 2 (by omega) w6 (unhide B6)).mono ?_
      rintro r wx ⟨⟨n2, hn2, rfl⟩, hwx⟩
      rw [hwx]
      clear hwx wx
      refine hK.out _ _ (unhide G6) (fun hS => ?_)
      clear HS
      have HS := hide hS
      clear hS hK K2
      have hw2 : IntKind.i64.wrap ((n2 : Int) * 250) = (n2 : Int) * 250 := by rw [IntKind.wrap_i64]; omega
      refine wpAnyH_take (i := 3) (v := .int .i64 ((n2 : Int) * 250)) rfl (by kernel_rfl) (by kernel_rfl) (by kernel_rfl) (fun _ _ _ h => h) (Or.inl ⟨by rfl, fun w hc => ?_⟩) (unhide HS) ?_
      · clear hc; go_simp
      go_simp
      clear hw2
      refine wpAnyH_ready (rs := [5]) (by kernel_rfl) (by simp) ?_
      refine AllReadyH.cons rfl (fun K2 hK => ?_) AllReadyH.nil
      go_simp
      refine (unhide AT 3 (by omega) w6 (unhide B6)).mono ?_
      rintro r wx ⟨⟨n3, hn3, rfl⟩, hwx⟩
      rw [hwx]
      clear hwx wx
      refine hK.out _ _ (unhide G6) (fun hS => ?_)
      clear HS
      have HS := hide hS
      clear hS hK K2
      refine wpAnyH_ready (rs := [6, 9]) (by kernel_rfl) (by simp) ?_
      refine AllReadyH.cons rfl (fun K2 hK => ?_) (AllReadyH.cons rfl (fun K2 hK => ?_) AllReadyH.nil)
      · go_simp
        have hbb := below_new w6 (.cells #[.int .i64 ((n2 : Int) * 250), .int .i64 (n3 : Int), .int .i64 9] 3)
        have R7 := hide (show RdN (w6.alloc (.cells #[.int .i64 ((n2 : Int) * 250), .int .i64 (n3 : Int), .int .i64 9] 3)) (some ⟨w6.heap.size, 0, none⟩) [(n2 : Int) * 250, (n3 : Int), 9] from RdN_lit w6 [(n2 : Int) * 250, (n3 : Int), 9])
        have B7 := hide ((unhide B6).trans (hbb.mono (unhide B6).size))
        have G7 := hide (row_keep (unhide G6) hbb)
        have X7 := hide ((unhide X6).later hbb)
        have U7 := hide ((unhide U6).later hbb)
        clear hbb B6 G6 X6 U6
        generalize w6.alloc (.cells #[.int .i64 ((n2 : Int) * 250), .int .i64 (n3 : Int), .int .i64 9] 3) = w7 at *
        generalize w6.heap.size = ga at *
        refine hK.out _ _ (unhide G7) (fun hS => ?_)
        clear HS
        have HS := hide hS
        clear hS hK K2
        refine wpAnyH_ready (rs := [9]) (by kernel_rfl) (by simp) ?_
        refine AllReadyH.cons rfl (fun K2 hK => ?_) AllReadyH.nil
        go_simp
        refine (unhide AT 4 (by omega) w7 (unhide B7)).mono ?_
        rintro r wx ⟨⟨n4, hn4, rfl⟩, hwx⟩
        rw [hwx]
        clear hwx wx
        refine hK.out _ _ (unhide G7) (fun hS => ?_)
        clear HS
        have HS := hide hS
        clear hS hK K2
        refine wpAnyH_ready (rs := [11]) (by kernel_rfl) (by simp) ?_
        refine AllReadyH.cons rfl (fun K2 hK => ?_) AllReadyH.nil
        go_simp
        refine (unhide AT 5 (by omega) w7 (unhide B7)).mono ?_
        rintro r wx ⟨⟨n5, hn5, rfl⟩, hwx⟩
        rw [hwx]
        clear hwx wx
        refine hK.out _ _ (unhide G7) (fun hS => ?_)
        clear HS
        have HS := hide hS
        clear hS hK K2
        refine wpAnyH_ready (rs := [12]) (by kernel_rfl) (by simp) ?_
        refine AllReadyH.cons rfl (fun K2 hK => ?_) AllReadyH.nil
        go_simp
        have hbb := below_new w7 (.cells #[.int .i64 (n4 : Int), .int .i64 (n5 : Int)] 3)
        have V8 := hide (show RdN (w7.alloc (.cells #[.int .i64 (n4 : Int), .int .i64 (n5 : Int)] 3)) (some ⟨w7.heap.size, 0, none⟩) [(n4 : Int), (n5 : Int)] from RdN_lit w7 [(n4 : Int), (n5 : Int)])
        have B8 := hide ((unhide B7).trans (hbb.mono (unhide B7).size))
        have G8 := hide (row_keep (unhide G7) hbb)
        have X8 := hide ((unhide X7).later hbb)
        have U8 := hide ((unhide U7).later hbb)
        have R8 := hide ((unhide R7).later hbb)
        clear hbb B7 G7 X7 U7 R7
        generalize w7.alloc (.cells #[.int .i64 (n4 : Int), .int .i64 (n5 : Int)] 3) = w8 at *
        generalize w7.heap.size = gc at *
        refine hK.out _ _ (unhide G8) (fun hS => ?_)
        clear HS
        have HS := hide hS
        clear hS hK K2
        refine wpAnyH_ready (rs := [13]) (by kernel_rfl) (by simp) ?_
        refine AllReadyH.cons rfl (fun K2 hK => ?_) AllReadyH.nil
        go_simp
        have KW1 := hide (fun n v => unhide KW [(n2 : Int) * 250, (n3 : Int), 9] [(n4 : Int), (n5 : Int)] n v)
        refine (unhide WX [(n2 : Int) * 250, (n3 : Int), 9] [(n4 : Int), (n5 : Int)] w8 (some ⟨ga, 0, none⟩) (some ⟨gb, 0, none⟩) (some ⟨gc, 0, none⟩) rfl rfl (unhide B8) (unhide X8).rd (unhide R8) (unhide U8) (unhide V8)).mono ?_
        rintro r w9 ⟨rfl, hbb⟩
        generalize worthA [(n2 : Int) * 250, (n3 : Int), 9] [⟨#[103]⟩, ⟨#[104]⟩] [(n4 : Int), (n5 : Int)] x = wo at *
        have HZ := hide (show qk = true → wo.isSome = true → wo.getD 0 = zk from fun h1 h2 => by
          obtain ⟨q1, q2⟩ := unhide ZK
          cases ko with
          | none => rw [← q2] at h1; cases h1
          | some n => cases wo with
            | none => cases h2
            | some v => rw [← q1]; exact unhide KW1 n v rfl rfl)
        clear KW1
        generalize wo.getD 0 = zw at *
        generalize wo.isSome = qw at *
        have B9 := hide ((unhide B8).trans (hbb.mono (unhide B8).size))
        have G9 := hide (row_keep (unhide G8) hbb)
        have X9 := hide ((unhide X8).later hbb)
        have U9 := hide ((unhide U8).later hbb)
        have R9 := hide ((unhide R8).later hbb)
        have V9 := hide ((unhide V8).later hbb)
        clear hbb B8 G8 X8 U8 R8 V8
        refine hK.out _ _ (unhide G9) (fun hS => ?_)
        clear HS
        have HS := hide hS
        clear hS hK K2
        refine wpAnyH_take (i := 14) (v := .tuple #[.int .i64 zw, .bool qw]) rfl (by kernel_rfl) (by kernel_rfl) (by kernel_rfl) (fun _ _ _ h => h) (Or.inl ⟨by rfl, fun w hc => ?_⟩) (unhide HS) ?_
        · clear hc; go_simp
        go_simp
        refine wpAnyH_take (i := 15) (v := .int .i64 zw) rfl (by kernel_rfl) (by kernel_rfl) (by kernel_rfl) (fun _ _ _ h => h) (Or.inl ⟨by rfl, fun w hc => ?_⟩) (unhide HS) ?_
        · clear hc; go_simp
        go_simp
        refine wpAnyH_take (i := 16) (v := .bool qw) rfl (by kernel_rfl) (by kernel_rfl) (by kernel_rfl) (fun _ _ _ h => h) (Or.inl ⟨by rfl, fun w hc => ?_⟩) (unhide HS) ?_
        · clear hc; go_simp
        go_simp
        refine wpAnyH_take (i := 17) (v := .int .i64 zw) rfl (by kernel_rfl) (by kernel_rfl) (by kernel_rfl) (fun _ _ _ h => h) (Or.inl ⟨by rfl, fun w hc => ?_⟩) (unhide HS) ?_
        · clear hc; go_simp
        go_simp
        refine wpAnyH_take (i := 18) (v := .bool qw) rfl (by kernel_rfl) (by kernel_rfl) (by kernel_rfl) (fun _ _ _ h => h) (Or.inl ⟨by rfl, fun w hc => ?_⟩) (unhide HS) ?_
        · clear hc; go_simp
        go_simp
        refine wpAnyH_done (by kernel_rfl) ?_ _
        refine hM6 _ _ (Met.intro (hJ6 _ _ ?_))
        (repeat apply Exists.intro)
        refine ⟨?_, rfl⟩
        exact ⟨zw, qw, rfl, rfl, unhide HZ, unhide B9⟩
      · go_simp
        refine (unhide AT 4 (by omega) w6 (unhide B6)).mono ?_
        rintro r wx ⟨⟨n4, hn4, rfl⟩, hwx⟩
        rw [hwx]
        clear hwx wx
        refine hK.out _ _ (unhide G6) (fun hS => ?_)
        clear HS
        have HS := hide hS
        clear hS hK K2
        refine wpAnyH_ready (rs := [6, 11]) (by kernel_rfl) (by simp) ?_
        refine AllReadyH.cons rfl (fun K2 hK => ?_) (AllReadyH.cons rfl (fun K2 hK => ?_) AllReadyH.nil)
        · go_simp
          have hbb := below_new w6 (.cells #[.int .i64 ((n2 : Int) * 250), .int .i64 (n3 : Int), .int .i64 9] 3)
          have R7 := hide (show RdN (w6.alloc (.cells #[.int .i64 ((n2 : Int) * 250), .int .i64 (n3 : Int), .int .i64 9] 3)) (some ⟨w6.heap.size, 0, none⟩) [(n2 : Int) * 250, (n3 : Int), 9] from RdN_lit w6 [(n2 : Int) * 250, (n3 : Int), 9])
          have B7 := hide ((unhide B6).trans (hbb.mono (unhide B6).size))
          have G7 := hide (row_keep (unhide G6) hbb)
          have X7 := hide ((unhide X6).later hbb)
          have U7 := hide ((unhide U6).later hbb)
          clear hbb B6 G6 X6 U6
          generalize w6.alloc (.cells #[.int .i64 ((n2 : Int) * 250), .int .i64 (n3 : Int), .int .i64 9] 3) = w7 at *
          generalize w6.heap.size = ga at *
          refine hK.out _ _ (unhide G7) (fun hS => ?_)
          clear HS
          have HS := hide hS
          clear hS hK K2
          refine wpAnyH_ready (rs := [11]) (by kernel_rfl) (by simp) ?_
          refine AllReadyH.cons rfl (fun K2 hK => ?_) AllReadyH.nil
          go_simp
          refine (unhide AT 5 (by omega) w7 (unhide B7)).mono ?_
          rintro r wx ⟨⟨n5, hn5, rfl⟩, hwx⟩
          rw [hwx]
          clear hwx wx
          refine hK.out _ _ (unhide G7) (fun hS => ?_)
          clear HS
          have HS := hide hS
          clear hS hK K2
          refine wpAnyH_ready (rs := [12]) (by kernel_rfl) (by simp) ?_
          refine AllReadyH.cons rfl (fun K2 hK => ?_) AllReadyH.nil
          go_simp
          have hbb := below_new w7 (.cells #[.int .i64 (n4 : Int), .int .i64 (n5 : Int)] 3)
          have V8 := hide (show RdN (w7.alloc (.cells #[.int .i64 (n4 : Int), .int .i64 (n5 : Int)] 3)) (some ⟨w7.heap.size, 0, none⟩) [(n4 : Int), (n5 : Int)] from RdN_lit w7 [(n4 : Int), (n5 : Int)])
          have B8 := hide ((unhide B7).trans (hbb.mono (unhide B7).size))
          have G8 := hide (row_keep (unhide G7) hbb)
          have X8 := hide ((unhide X7).later hbb)
          have U8 := hide ((unhide U7).later hbb)
          have R8 := hide ((unhide R7).later hbb)
          clear hbb B7 G7 X7 U7 R7
          generalize w7.alloc (.cells #[.int .i64 (n4 : Int), .int .i64 (n5 : Int)] 3) = w8 at *
          generalize w7.heap.size = gc at *
          refine hK.out _ _ (unhide G8) (fun hS => ?_)
          clear HS
          have HS := hide hS
          clear hS hK K2
          refine wpAnyH_ready (rs := [13]) (by kernel_rfl) (by simp) ?_
          refine AllReadyH.cons rfl (fun K2 hK => ?_) AllReadyH.nil
          go_simp
          have KW1 := hide (fun n v => unhide KW [(n2 : Int) * 250, (n3 : Int), 9] [(n4 : Int), (n5 : Int)] n v)
          refine (unhide WX [(n2 : Int) * 250, (n3 : Int), 9] [(n4 : Int), (n5 : Int)] w8 (some ⟨ga, 0, none⟩) (some ⟨gb, 0, none⟩) (some ⟨gc, 0, none⟩) rfl rfl (unhide B8) (unhide X8).rd (unhide R8) (unhide U8) (unhide V8)).mono ?_
          rintro r w9 ⟨rfl, hbb⟩
          generalize worthA [(n2 : Int) * 250, (n3 : Int), 9] [⟨#[103]⟩, ⟨#[104]⟩] [(n4 : Int), (n5 : Int)] x = wo at *
          have HZ := hide (show qk = true → wo.isSome = true → wo.getD 0 = zk from fun h1 h2 => by
            obtain ⟨q1, q2⟩ := unhide ZK
            cases ko with
            | none => rw [← q2] at h1; cases h1
            | some n => cases wo with
              | none => cases h2
              | some v => rw [← q1]; exact unhide KW1 n v rfl rfl)
          clear KW1
          generalize wo.getD 0 = zw at *
          generalize wo.isSome = qw at *
          have B9 := hide ((unhide B8).trans (hbb.mono (unhide B8).size))
          have G9 := hide (row_keep (unhide G8) hbb)
          have X9 := hide ((unhide X8).later hbb)
          have U9 := hide ((unhide U8).later hbb)
          have R9 := hide ((unhide R8).later hbb)
          have V9 := hide ((unhide V8).later hbb)
          clear hbb B8 G8 X8 U8 R8 V8
          refine hK.out _ _ (unhide G9) (fun hS => ?_)
          clear HS
          have HS := hide hS
          clear hS hK K2
          refine wpAnyH_take (i := 14) (v := .tuple #[.int .i64 zw, .bool qw]) rfl (by kernel_rfl) (by kernel_rfl) (by kernel_rfl) (fun _ _ _ h => h) (Or.inl ⟨by rfl, fun w hc => ?_⟩) (unhide HS) ?_
          · clear hc; go_simp
          go_simp
          refine wpAnyH_take (i := 15) (v := .int .i64 zw) rfl (by kernel_rfl) (by kernel_rfl) (by kernel_rfl) (fun _ _ _ h => h) (Or.inl ⟨by rfl, fun w hc => ?_⟩) (unhide HS) ?_
          · clear hc; go_simp
          go_simp
          refine wpAnyH_take (i := 16) (v := .bool qw) rfl (by kernel_rfl) (by kernel_rfl) (by kernel_rfl) (fun _ _ _ h => h) (Or.inl ⟨by rfl, fun w hc => ?_⟩) (unhide HS) ?_
          · clear hc; go_simp
          go_simp
          refine wpAnyH_take (i := 17) (v := .int .i64 zw) rfl (by kernel_rfl) (by kernel_rfl) (by kernel_rfl) (fun _ _ _ h => h) (Or.inl ⟨by rfl, fun w hc => ?_⟩) (unhide HS) ?_
          · clear hc; go_simp
          go_simp
          refine wpAnyH_take (i := 18) (v := .bool qw) rfl (by kernel_rfl) (by kernel_rfl) (by kernel_rfl) (fun _ _ _ h => h) (Or.inl ⟨by rfl, fun w hc => ?_⟩) (unhide HS) ?_
          · clear hc; go_simp
          go_simp
          refine wpAnyH_done (by kernel_rfl) ?_ _
          refine hM6 _ _ (Met.intro (hJ6 _ _ ?_))
          (repeat apply Exists.intro)
          refine ⟨?_, rfl⟩
          exact ⟨zw, qw, rfl, rfl, unhide HZ, unhide B9⟩
        · go_simp
          refine (unhide AT 5 (by omega) w6 (unhide B6)).mono ?_
          rintro r wx ⟨⟨n5, hn5, rfl⟩, hwx⟩
          rw [hwx]
          clear hwx wx
          refine hK.out _ _ (unhide G6) (fun hS => ?_)
          clear HS
          have HS := hide hS
          clear hS hK K2
          refine wpAnyH_ready (rs := [6, 12]) (by kernel_rfl) (by simp) ?_
          refine AllReadyH.cons rfl (fun K2 hK => ?_) (AllReadyH.cons rfl (fun K2 hK => ?_) AllReadyH.nil)
          · go_simp
            have hbb := below_new w6 (.cells #[.int .i64 ((n2 : Int) * 250), .int .i64 (n3 : Int), .int .i64 9] 3)
            have R7 := hide (show RdN (w6.alloc (.cells #[.int .i64 ((n2 : Int) * 250), .int .i64 (n3 : Int), .int .i64 9] 3)) (some ⟨w6.heap.size, 0, none⟩) [(n2 : Int) * 250, (n3 : Int), 9] from RdN_lit w6 [(n2 : Int) * 250, (n3 : Int), 9])
            have B7 := hide ((unhide B6).trans (hbb.mono (unhide B6).size))
            have G7 := hide (row_keep (unhide G6) hbb)
            have X7 := hide ((unhide X6).later hbb)
            have U7 := hide ((unhide U6).later hbb)
            clear hbb B6 G6 X6 U6
            generalize w6.alloc (.cells #[.int .i64 ((n2 : Int) * 250), .int .i64 (n3 : Int), .int .i64 9] 3) = w7 at *
            generalize w6.heap.size = ga at *
            refine hK.out _ _ (unhide G7) (fun hS => ?_)
            clear HS
            have HS := hide hS
            clear hS hK K2
            refine wpAnyH_ready (rs := [12]) (by kernel_rfl) (by simp) ?_
            refine AllReadyH.cons rfl (fun K2 hK => ?_) AllReadyH.nil
            go_simp
            have hbb := below_new w7 (.cells #[.int .i64 (n4 : Int), .int .i64 (n5 : Int)] 3)
            have V8 := hide (show RdN (w7.alloc (.cells #[.int .i64 (n4 : Int), .int .i64 (n5 : Int)] 3)) (some ⟨w7.heap.size, 0, none⟩) [(n4 : Int), (n5 : Int)] from RdN_lit w7 [(n4 : Int), (n5 : Int)])
            have B8 := hide ((unhide B7).trans (hbb.mono (unhide B7).size))
            have G8 := hide (row_keep (unhide G7) hbb)
            have X8 := hide ((unhide X7).later hbb)
            have U8 := hide ((unhide U7).later hbb)
            have R8 := hide ((unhide R7).later hbb)
            clear hbb B7 G7 X7 U7 R7
            generalize w7.alloc (.cells #[.int .i64 (n4 : Int), .int .i64 (n5 : Int)] 3) = w8 at *
            generalize w7.heap.size = gc at *
            refine hK.out _ _ (unhide G8) (fun hS => ?_)
            clear HS
            have HS := hide hS
            clear hS hK K2
            refine wpAnyH_ready (rs := [13]) (by kernel_rfl) (by simp) ?_
            refine AllReadyH.cons rfl (fun K2 hK => ?_) AllReadyH.nil
            go_simp
            have KW1 := hide (fun n v => unhide KW [(n2 : Int) * 250, (n3 : Int), 9] [(n4 : Int), (n5 : Int)] n v)
            refine (unhide WX [(n2 : Int) * 250, (n3 : Int), 9] [(n4 : Int), (n5 : Int)] w8 (some ⟨ga, 0, none⟩) (some ⟨gb, 0, none⟩) (some ⟨gc, 0, none⟩) rfl rfl (unhide B8) (unhide X8).rd (unhide R8) (unhide U8) (unhide V8)).mono ?_
            rintro r w9 ⟨rfl, hbb⟩
            generalize worthA [(n2 : Int) * 250, (n3 : Int), 9] [⟨#[103]⟩, ⟨#[104]⟩] [(n4 : Int), (n5 : Int)] x = wo at *
            have HZ := hide (show qk = true → wo.isSome = true → wo.getD 0 = zk from fun h1 h2 => by
              obtain ⟨q1, q2⟩ := unhide ZK
              cases ko with
              | none => rw [← q2] at h1; cases h1
              | some n => cases wo with
                | none => cases h2
                | some v => rw [← q1]; exact unhide KW1 n v rfl rfl)
            clear KW1
            generalize wo.getD 0 = zw at *
            generalize wo.isSome = qw at *
            have B9 := hide ((unhide B8).trans (hbb.mono (unhide B8).size))
            have G9 := hide (row_keep (unhide G8) hbb)
            have X9 := hide ((unhide X8).later hbb)
            have U9 := hide ((unhide U8).later hbb)
            have R9 := hide ((unhide R8).later hbb)
            have V9 := hide ((unhide V8).later hbb)
            clear hbb B8 G8 X8 U8 R8 V8
            refine hK.out _ _ (unhide G9) (fun hS => ?_)
            clear HS
            have HS := hide hS
            clear hS hK K2
            refine wpAnyH_take (i := 14) (v := .tuple #[.int .i64 zw, .bool qw]) rfl (by kernel_rfl) (by kernel_rfl) (by kernel_rfl) (fun _ _ _ h => h) (Or.inl ⟨by rfl, fun w hc => ?_⟩) (unhide HS) ?_
            · clear hc; go_simp
            go_simp
            refine wpAnyH_take (i := 15) (v := .int .i64 zw) rfl (by kernel_rfl) (by kernel_rfl) (by kernel_rfl) (fun _ _ _ h => h) (Or.inl ⟨by rfl, fun w hc => ?_⟩) (unhide HS) ?_
            · clear hc; go_simp
            go_simp
            refine wpAnyH_take (i := 16) (v := .bool qw) rfl (by kernel_rfl) (by kernel_rfl) (by kernel_rfl) (fun _ _ _ h => h) (Or.inl ⟨by rfl, fun w hc => ?_⟩) (unhide HS) ?_
            · clear hc; go_simp
            go_simp
            refine wpAnyH_take (i := 17) (v := .int .i64 zw) rfl (by kernel_rfl) (by kernel_rfl) (by kernel_rfl) (fun _ _ _ h => h) (Or.inl ⟨by rfl, fun w hc => ?_⟩) (unhide HS) ?_
            · clear hc; go_simp
            go_simp
            refine wpAnyH_take (i := 18) (v := .bool qw) rfl (by kernel_rfl) (by kernel_rfl) (by kernel_rfl) (fun _ _ _ h => h) (Or.inl ⟨by rfl, fun w hc => ?_⟩) (unhide HS) ?_
            · clear hc; go_simp
            go_simp
            refine wpAnyH_done (by kernel_rfl) ?_ _
            refine hM6 _ _ (Met.intro (hJ6 _ _ ?_))
            (repeat apply Exists.intro)
            refine ⟨?_, rfl⟩
            exact ⟨zw, qw, rfl, rfl, unhide HZ, unhide B9⟩
          · go_simp
            have hbb := below_new w6 (.cells #[.int .i64 (n4 : Int), .int .i64 (n5 : Int)] 3)
            have V7 := hide (show RdN (w6.alloc (.cells #[.int .i64 (n4 : Int), .int .i64 (n5 : Int)] 3)) (some ⟨w6.heap.size, 0, none⟩) [(n4 : Int), (n5 : Int)] from RdN_lit w6 [(n4 : Int), (n5 : Int)])
            have B7 := hide ((unhide B6).trans (hbb.mono (unhide B6).size))
            have G7 := hide (row_keep (unhide G6) hbb)
            have X7 := hide ((unhide X6).later hbb)
            have U7 := hide ((unhide U6).later hbb)
            clear hbb B6 G6 X6 U6
            generalize w6.alloc (.cells #[.int .i64 (n4 : Int), .int .i64 (n5 : Int)] 3) = w7 at *
            generalize w6.heap.size = gc at *
            refine hK.out _ _ (unhide G7) (fun hS => ?_)
            clear HS
            have HS := hide hS
            clear hS hK K2
            refine wpAnyH_ready (rs := [6]) (by kernel_rfl) (by simp) ?_
            refine AllReadyH.cons rfl (fun K2 hK => ?_) AllReadyH.nil
            go_simp
            have hbb := below_new w7 (.cells #[.int .i64 ((n2 : Int) * 250), .int .i64 (n3 : Int), .int .i64 9] 3)
            have R8 := hide (show RdN (w7.alloc (.cells #[.int .i64 ((n2 : Int) * 250), .int .i64 (n3 : Int), .int .i64 9] 3)) (some ⟨w7.heap.size, 0, none⟩) [(n2 : Int) * 250, (n3 : Int), 9] from RdN_lit w7 [(n2 : Int) * 250, (n3 : Int), 9])
            have B8 := hide ((unhide B7).trans (hbb.mono (unhide B7).size))
            have G8 := hide (row_keep (unhide G7) hbb)
            have X8 := hide ((unhide X7).later hbb)
            have U8 := hide ((unhide U7).later hbb)
            have V8 := hide ((unhide V7).later hbb)
            clear hbb B7 G7 X7 U7 V7
            generalize w7.alloc (.cells #[.int .i64 ((n2 : Int) * 250), .int .i64 (n3 : Int), .int .i64 9] 3) = w8 at *
            generalize w7.heap.size = ga at *
            refine hK.out _ _ (unhide G8) (fun hS => ?_)
            clear HS
            have HS := hide hS
            clear hS hK K2
            refine wpAnyH_ready (rs := [13]) (by kernel_rfl) (by simp) ?_
            refine AllReadyH.cons rfl (fun K2 hK => ?_) AllReadyH.nil
            go_simp
            have KW1 := hide (fun n v => unhide KW [(n2 : Int) * 250, (n3 : Int), 9] [(n4 : Int), (n5 : Int)] n v)
            refine (unhide WX [(n2 : Int) * 250, (n3 : Int), 9] [(n4 : Int), (n5 : Int)] w8 (some ⟨ga, 0, none⟩) (some ⟨gb, 0, none⟩) (some ⟨gc, 0, none⟩) rfl rfl (unhide B8) (unhide X8).rd (unhide R8) (unhide U8) (unhide V8)).mono ?_
            rintro r w9 ⟨rfl, hbb⟩
            generalize worthA [(n2 : Int) * 250, (n3 : Int), 9] [⟨#[103]⟩, ⟨#[104]⟩] [(n4 : Int), (n5 : Int)] x = wo at *
            have HZ := hide (show qk = true → wo.isSome = true → wo.getD 0 = zk from fun h1 h2 => by
              obtain ⟨q1, q2⟩ := unhide ZK
              cases ko with
              | none => rw [← q2] at h1; cases h1
              | some n => cases wo with
                | none => cases h2
                | some v => rw [← q1]; exact unhide KW1 n v rfl rfl)
            clear KW1
            generalize wo.getD 0 = zw at *
            generalize wo.isSome = qw at *
            have B9 := hide ((unhide B8).trans (hbb.mono (unhide B8).size))
            have G9 := hide (row_keep (unhide G8) hbb)
            have X9 := hide ((unhide X8).later hbb)
            have U9 := hide ((unhide U8).later hbb)
            have V9 := hide ((unhide V8).later hbb)
            have R9 := hide ((unhide R8).later hbb)
            clear hbb B8 G8 X8 U8 V8 R8
            refine hK.out _ _ (unhide G9) (fun hS => ?_)
            clear HS
            have HS := hide hS
            clear hS hK K2
            refine wpAnyH_take (i := 14) (v := .tuple #[.int .i64 zw, .bool qw]) rfl (by kernel_rfl) (by kernel_rfl) (by kernel_rfl) (fun _ _ _ h => h) (Or.inl ⟨by rfl, fun w hc => ?_⟩) (unhide HS) ?_
            · clear hc; go_simp
            go_simp
            refine wpAnyH_take (i := 15) (v := .int .i64 zw) rfl (by kernel_rfl) (by kernel_rfl) (by kernel_rfl) (fun _ _ _ h => h) (Or.inl ⟨by rfl, fun w hc => ?_⟩) (unhide HS) ?_
            · clear hc; go_simp
            go_simp
            refine wpAnyH_take (i := 16) (v := .bool qw) rfl (by kernel_rfl) (by kernel_rfl) (by kernel_rfl) (fun _ _ _ h => h) (Or.inl ⟨by rfl, fun w hc => ?_⟩) (unhide HS) ?_
            · clear hc; go_simp
            go_simp
            refine wpAnyH_take (i := 17) (v := .int .i64 zw) rfl (by kernel_rfl) (by kernel_rfl) (by kernel_rfl) (fun _ _ _ h => h) (Or.inl ⟨by rfl, fun w hc => ?_⟩) (unhide HS) ?_
            · clear hc; go_simp
            go_simp
            refine wpAnyH_take (i := 18) (v := .bool qw) rfl (by kernel_rfl) (by kernel_rfl) (by kernel_rfl) (fun _ _ _ h => h) (Or.inl ⟨by rfl, fun w hc => ?_⟩) (unhide HS) ?_
            · clear hc; go_simp
            go_simp
            refine wpAnyH_done (by kernel_rfl) ?_ _
            refine hM6 _ _ (Met.intro (hJ6 _ _ ?_))
            (repeat apply Exists.intro)
            refine ⟨?_, rfl⟩
            exact ⟨zw, qw, rfl, rfl, unhide HZ, unhide B9⟩
  case rest =>
    obtain ⟨z, q, rfl, rfl, hzz, hbc⟩ := hcut
    have BC := hide hbc
    clear hbc
    cases qk with
    | false =>
      have e0 := hz0 rfl
      subst e0
      cases q <;> (go_wp2; go_ret; exact ⟨rfl, unhide BC⟩)
    | true =>
      cases q with
      | false => go_wp2; go_ret; exact ⟨rfl, unhide BC⟩
      | true =>
        have e0 := hzz rfl rfl
        subst e0
        go_wp2
        go_ret
        exact ⟨rfl, unhide BC⟩

set_option maxRecDepth 100000 in
theorem lifted (os : Os) (started : os.Started) (H : Type) (enc : TypeId × Value → H) :
    ReturnsInHanded {} Tryd.checked os 4 .any (fun w args => (Rows.fnKnownSpec.pre enc Tryd.prog Tryd.f4 [] false w args ∧ laidMetH Tryd.prog Rows.fnKnownRow.laid w) ∧ sizedMet enc Tryd.prog Tryd.f4 (OpenSpec.ofChange Rows.fnKnownSpec) false w args)
      (Rows.fnKnownSpec.post enc Tryd.prog Tryd.f4 false true false false) := by
  refine returnsInHanded_of_change_and (C := Tryd.checked) (X := fun w _ => laidMetH Tryd.prog Rows.fnKnownRow.laid w) (fun _ _ _ hh h => h.of_heap hh) own started (by kernel_rfl) Tryd.func4
    (ChangeSpec.witness_shaped (enc := enc) (C := Tryd.checked) (os := os) (X := fun w _ => laidMetH Tryd.prog Rows.fnKnownRow.laid w) false (World.laidAll Tryd.prog os Rows.fnKnownRow.laid) #[.slice none 0 0] 8 (World.laidAll_os _ _ _)
      (World.shaped_of_ZipB (by kernel_rfl) (by kernel_rfl)) (by kernel_rfl) (by kernel_rfl) (by kernel_rfl)
      (by rw [MakeChecks.laidMetH_plain _ _ _ (by kernel_rfl)]; exact laidMet_laidAll _ (by kernel_rfl) (by kernel_rfl))) ?_
  intro W base args ds gs before hval0 hW _ _ hL _
  have hval : ∀ (j : Nat) t v, Tryd.f4.params[j]? = some t → args[j]? = some v → Value.okWide Tryd.prog W .any base t v := hval0
  have hW' := hW
  obtain ⟨p, q, hA0, hV, rfl, hfz, hnd⟩ := hW
  have hA : DataW.TrodAll enc Tryd.prog W 0 (fun _ => true) true Tryd.f4.params.toList args.toList ds p := hA0
  rw [Tryd.params4] at hA hval
  obtain ⟨v0, vs0, d0, ds0, p0, q0, hargs, rfl, rfl, h0, r0⟩ := trodAll_cons hA
  obtain ⟨rfl, rfl, rfl⟩ := trodAll_nil r0
  obtain rfl : args = #[v0] := by cases args; simp_all
  have kV := hV
  obtain ⟨gv, tv, cv, fv, dv, pv, gu, tu, cu, fu, du, pu, rfl, _⟩ := trodVars_two hV
  have k0 := h0
  have lt0 : ∀ x ∈ p0, x.block < W.heap.size := by obtain ⟨m, hm⟩ := k0; exact DataW.trod_lt m _ _ _ hm
  obtain ⟨a0, len0, cap0, rfl⟩ := okWide_slice Tryd.underlying22 (hval 0 22 v0 rfl rfl)
  obtain ⟨z0, w0⟩ : ∃ zs, IsRow .u8 W a0 len0 cap0 zs := by
    obtain ⟨fuel, hf⟩ := h0
    rcases open_ints Tryd.underlying22 Tryd.underlying5 (by kernel_rfl) hf with ⟨hcs, _⟩ | ⟨x, l, c, zs, hcs, _, hl, hm, hz, _, hcell, hwz⟩
    · simp [Value.cells] at hcs
      obtain ⟨rfl, rfl, rfl⟩ := hcs
      exact ⟨[], .inl ⟨rfl, rfl, rfl, rfl⟩⟩
    · simp [Value.cells] at hcs
      obtain ⟨rfl, rfl, rfl⟩ := hcs
      exact ⟨zs, .inr ⟨_, rfl, hl, hm, by simpa using hz, hcell, hwz⟩⟩
  clear hA0 hval0
  refine (walk a0 len0 cap0 z0 W w0 (tab_of_laid hL)).mono fun e W' ⟨he, bel⟩ => ?_
  subst he
  exact ⟨_, rfl, _, _, _, [], _, _, hW', trodAll_mk1 (shut_bool Tryd.underlying4 _), (trodAll_cons_mk (Below.trod laidOut (by kernel_rfl) (of_decide_eq_true (by kernel_rfl)) k0 bel lt0) trodAll_mk0), bel.trodVars laidOut (by kernel_rfl) kV, bel.frame _, fun h => by cases h⟩

theorem proved : Rows.FnKnownSaid :=
  OpenClaim.holds_of_wide 4 Tryd.f4 rfl rfl rfl rfl rfl rfl rfl ⟨rfl, rfl, rfl, rfl, rfl⟩ rfl rfl rfl rfl rfl (by kernel_rfl) Tryd.func4 (by kernel_rfl)
    (of_decide_eq_true (by kernel_rfl)) (by unfold Func.isWrapper; first | (rw [if_pos (by decide +kernel)]; kernel_rfl) | (rw [if_neg (by decide +kernel)]; exact ⟨rfl, rfl⟩))
    (fun os started H enc _ => lifted os started H enc)
end Go.Proofs.YtkolflcjkofleaaDoor.fnKnown

namespace Go.Proofs.YtkolflcjkofleaaDoor
theorem fnKnown_holds : Rows.FnKnownCardSaid :=
  Claim7.holds_tied_plain_at .later [] [.data, .data] true (true, "bb0bc1b0fb6fad9ee741dbe94bc6d927b19996896d356a68a721711bb659e7ab") true
    fnKnown.proved (fun _ h => by cases h) (by kernel_rfl) (fun _ h => by cases h) fnKnown_row_tie rfl ⟨rfl, rfl⟩ (by kernel_rfl) rfl
    (fun f fn hf hfn => by
      obtain rfl : f = 4 := Option.some.inj ((show Tryd.prog.funcNamed "loop.example/g00329/laws.FnKnown" = some 4 by kernel_rfl).symm.trans hf) |>.symm
      obtain rfl : fn = Tryd.f4 := (Option.some.inj (Tryd.func4.symm.trans hfn)).symm
      exact ⟨by kernel_rfl, fun j t ht => by
        rw [Tryd.params4] at ht
        have hm : t ∈ [22] := by simpa using Array.mem_of_getElem? ht
        have hall : ([22].all fun u => !Tryd.prog.wantsStandIn u) = true := by kernel_rfl
        exact (show Tryd.prog.wantsStandIn t = false by simpa using List.all_eq_true.1 hall t hm)⟩)
    (by kernel_rfl)
#print axioms fnKnown_holds
end Go.Proofs.YtkolflcjkofleaaDoor
