/- For every slice of bytes: the term drawn of it is folded as the model has it, is right just where it was, is folded no further, and is worth the same where it is worth something: the law FnFolds returns true at every argument (of more than 1048576 bytes the law itself answers true); the condition is what the card ties: the tables opWords and regWords are as the text of the program lays them. -/
import Derived.Test.YtkolflcjkofleaaDoorRows
import Derived.Test.YtkolflcjkofleaaDoorTxA
import Derived.Test.YtkolflcjkofleaaDoorTxC
import Derived.Test.YtkolflcjkofleaaDoorTxD
import Derived.Test.YtkolflcjkofleaaDoorTxG
import Derived.Test.YtkolflcjkofleaaDoorTxH
import Derived.Test.YtkolflcjkofleaaDoorTxI
import Derived.Test.YtkolflcjkofleaaDoorTxJ
import Derived.Test.YtkolflcjkofleaaDoorTxK
import Derived.Test.YtkolflcjkofleaaDoorTie
import Derived.Test.YtkolflcjkofleaaDoorCards
import Derived.SevenTiedAt
import Derived.Lay
import Derived.MakeChecks
import Derived.OpenVars
import Derived.WalkKit
import Derived.ProofKit
import Derived.OpenShut
import Derived.ShutString
import Derived.ChangeOld
import Derived.Below
namespace Go.Proofs.YtkolflcjkofleaaDoor.fnFolds
open Go.ChangeShapes Go.WideShapes Go.ChangeAt Go.RowKit
open Go.ChangeMaps (open_string shut_string)
set_option linter.unusedVariables false
set_option maxRecDepth 8000

set_option maxHeartbeats 16000000 in
theorem walk (a : Option Addr) (len cap : Nat) (zs : List Int) (w : World) (hrow : IsRow .u8 w a len cap zs) (ht : TabK w) : Calls Tryd.prog 3 #[.slice a len cap] w fun e w' => e = .returned (.bool true) ∧ Below w.heap.size w w' := by
  obtain ⟨xs, hl, hlc, hcm, hr⟩ := rd_of_row hrow
  clear hrow
  have hlm : len ≤ 9223372036854775807 := by unfold maxLen at hcm; omega
  have EV := hide (fun wr (h : Below w.heap.size w wr) => ht.next h)
  have RX := hide (fun wr (h : Below w.heap.size w wr) => hr.later h)
  clear ht hr
  by_cases hbig : (1048576 : Int) < (len : Int)
  · have hb1 : decide ((1048576 : Int) < (len : Int)) = true := decide_eq_true hbig
    have BG := hide (big_any a len cap w hlm)
    rw [hb1] at BG
    go_enter Tryd.func3, Tryd.ntmps3
    go_wp2_with (first | (go_at_call 10; refine (unhide BG).mono ?_; rintro e w' ⟨rfl, hw'⟩; rw [hw']; clear hw' w'))
    go_ret
    exact ⟨rfl, Below.refl _ _⟩
  have hb1 : decide ((1048576 : Int) < (len : Int)) = false := decide_eq_false hbig
  have hm : len ≤ 1048576 := by omega
  have BG := hide (big_any a len cap w hlm)
  rw [hb1] at BG
  have D1 := hide (drawFold_any a len cap xs w hl hm (unhide RX w (Below.refl _ _)))
  have AT := hide (fun (i : Nat) (hi : i ≤ 1048576) wr h => atL_any a len cap i xs wr hl hm hi (unhide RX wr h))
  clear RX hl
  go_enter Tryd.func3, Tryd.ntmps3
  go_wp2_with (first | (go_at_call 10; refine (unhide BG).mono ?_; rintro e w' ⟨rfl, hw'⟩; rw [hw']; clear hw' w'))
  refine (unhide D1).mono ?_
  rintro e w1 ⟨x, c, cp, rfl, hsx, hnx, hb1'⟩
  have B1 := hide hb1'
  have X1 := hide hnx.half
  clear hnx hb1' D1 BG hb1
  have hfz := foldA_sz x hsx
  have FI := hide (fun wr (hb : Below w.heap.size w wr) (q : ∃ F, OwX wr x c F ∧ F.Nodup) => (by obtain ⟨F, q1, q2⟩ := q; exact foldI_any x c cp F wr q1 q2 (by omega) (unhide EV wr hb) : Calls Tryd.prog 12 #[.agg (x.cs c cp)] wr (XoR (foldA x) wr)))
  have FJ := hide (fun d dp wr (hb : Below w.heap.size w wr) (q : ∃ F, OwX wr (foldA x) d F ∧ F.Nodup) => (by obtain ⟨F, q1, q2⟩ := q; have h := foldI_any (foldA x) d dp F wr q1 q2 (by omega) (unhide EV wr hb); rw [foldA_twice] at h; exact h : Calls Tryd.prog 12 #[.agg ((foldA x).cs d dp)] wr (XoR (foldA x) wr)))
  have FS := hide (fun wr (q : RdX wr 0 x c) => foldA_any x c cp wr q (by omega))
  have WX := hide (fun bs vs wr x1 x2 x3 (h1 : bs.length = 3) (h2 : vs.length = 2) (hb : Below w.heap.size w wr) (h0 : RdX wr 0 x c) (q1 : RdN wr x1 bs) (q2 : RdU wr x2 [⟨#[103]⟩, ⟨#[104]⟩]) (q3 : RdN wr x3 vs) => worthI_any bs [⟨#[103]⟩, ⟨#[104]⟩] vs (by omega) (by omega) (by decide) x c cp x1 x2 x3 bs.length 2 vs.length wr h0 (by omega) (unhide EV wr hb) q1 q2 q3)
  have WF := hide (fun d dp bs vs wr x1 x2 x3 (h1 : bs.length = 3) (h2 : vs.length = 2) (hb : Below w.heap.size w wr) (h0 : RdX wr 0 (foldA x) d) (q1 : RdN wr x1 bs) (q2 : RdU wr x2 [⟨#[103]⟩, ⟨#[104]⟩]) (q3 : RdN wr x3 vs) => worthI_any bs [⟨#[103]⟩, ⟨#[104]⟩] vs (by omega) (by omega) (by decide) (foldA x) d dp x1 x2 x3 bs.length 2 vs.length wr h0 (by omega) (unhide EV wr hb) q1 q2 q3)
  have SA := hide (fun d d2 dp dp2 wr (q1 : ∃ F, OwX wr (foldA x) d F) (q2 : ∃ F, OwX wr (foldA x) d2 F) => sameI_any (foldA x) (foldA x) d d2 dp dp2 wr q1 q2 (by omega))
  rw [sameX_self] at SA
  have OX := hide (fun wr (hb : Below w.heap.size w wr) (q : RdX wr 0 x c) => okI_any x c cp wr q (by omega) (unhide EV wr hb))
  have OF := hide (fun d dp wr (hb : Below w.heap.size w wr) (q : RdX wr 0 (foldA x) d) => okI_any (foldA x) d dp wr q (by omega) (unhide EV wr hb))
  rw [foldA_ok] at OF
  have WW := hide (fun (bs vs : List Int) {v : Int} (h : worthA bs [⟨#[103]⟩, ⟨#[104]⟩] vs x = some v) => foldA_worth bs [⟨#[103]⟩, ⟨#[104]⟩] vs x h)
  unfold XoR at FI FJ
  unfold GiR at FS
  unfold InR at WX WF
  unfold Ex.cs at FI FJ FS WX WF SA OX OF ⊢
  generalize foldA x = E at *
  generalize okF 6 false x = p at *
  clear hfz hsx EV
  generalize x.k = ek at *
  generalize x.n = en at *
  generalize x.s = es at *
  generalize x.l.length = el at *
  generalize E.k = fk at *
  generalize E.n = fn at *
  generalize E.s = fs at *
  generalize E.l.length = fl at *
  have hbb := below_new w1 (.cells #[.int .i64 ek, .int .i64 en, .string es, .slice c el cp] 26)
  have G2 := hide (show (w1.alloc (.cells #[.int .i64 ek, .int .i64 en, .string es, .slice c el cp] 26)).heap[w1.heap.size]? = some (.cells #[.int .i64 ek, .int .i64 en, .string es, .slice c el cp] 26 (0, 0)) from Array.getElem?_push_size)
  have B2 := hide ((unhide B1).trans (hbb.mono (unhide B1).size))
  have X2 := hide ((unhide X1).later hbb)
  clear hbb B1 X1
  have A2 := hide (unhide FI _ (unhide B2) (by obtain ⟨F, q1, q2, _⟩ := unhide X2; exact ⟨F, q1, q2⟩))
  go_wp2_with (refine wpList_load_row rfl 26 _ rfl w1.heap.size rfl 26 #[.int .i64 ek, .int .i64 en, .string es, .slice c el cp] (0, 0) _ (unhide G2) Tryd.underlying26 rfl (by kernel_rfl) ?_)
  generalize w1.alloc (.cells #[.int .i64 ek, .int .i64 en, .string es, .slice c el cp] 26) = w2 at *
  generalize w1.heap.size = g0 at *
  refine (unhide A2).mono ?_
  rintro r w3 ⟨d, dp, rfl, hnx, hbb⟩
  have Y3 := hide hnx.half
  clear hnx A2 FI
  have B3 := hide ((unhide B2).trans (hbb.mono (unhide B2).size))
  have G3 := hide (row_keep (unhide G2) hbb)
  have X3 := hide ((unhide X2).later hbb)
  clear hbb B2 G2 X2
  have hbb := below_new w3 (.cells #[.int .i64 fk, .int .i64 fn, .string fs, .slice d fl dp] 26)
  have H4 := hide (show (w3.alloc (.cells #[.int .i64 fk, .int .i64 fn, .string fs, .slice d fl dp] 26)).heap[w3.heap.size]? = some (.cells #[.int .i64 fk, .int .i64 fn, .string fs, .slice d fl dp] 26 (0, 0)) from Array.getElem?_push_size)
  have B4 := hide ((unhide B3).trans (hbb.mono (unhide B3).size))
  have G4 := hide (row_keep (unhide G3) hbb)
  have X4 := hide ((unhide X3).later hbb)
  have Y4 := hide ((unhide Y3).later hbb)
  clear hbb B3 G3 X3 Y3
  have T2 := hide (unhide AT 2 (by omega) _ (unhide B4))
  have T3 := hide (unhide AT 3 (by omega) _ (unhide B4))
  have T4 := hide (unhide AT 4 (by omega) _ (unhide B4))
  go_wp2_with fail
  generalize w3.alloc (.cells #[.int .i64 fk, .int .i64 fn, .string fs, .slice d fl dp] 26) = w4 at *
  generalize w3.heap.size = g1 at *
  refine (unhide T2).mono ?_
  rintro r wx ⟨⟨n2, hn2, rfl⟩, hwx⟩
  rw [hwx]
  clear hwx wx T2
  go_wp2_with fail
  refine (unhide T3).mono ?_
  rintro r wx ⟨⟨n3, hn3, rfl⟩, hwx⟩
  rw [hwx]
  clear hwx wx T3
  go_wp2_with fail
  refine (unhide T4).mono ?_
  rintro r wx ⟨⟨n4, hn4, rfl⟩, hwx⟩
  rw [hwx]
  clear hwx wx T4
  have hbb := below_new w4 (.cells #[.int .i64 ((n2 : Int) * 200), .int .i64 ((n3 : Int) * 3), .int .i64 (n4 : Int)] 3)
  have R5 := hide (show RdN (w4.alloc (.cells #[.int .i64 ((n2 : Int) * 200), .int .i64 ((n3 : Int) * 3), .int .i64 (n4 : Int)] 3)) (some ⟨w4.heap.size, 0, none⟩) [(n2 : Int) * 200, (n3 : Int) * 3, (n4 : Int)] from RdN_lit w4 [(n2 : Int) * 200, (n3 : Int) * 3, (n4 : Int)])
  have B5 := hide ((unhide B4).trans (hbb.mono (unhide B4).size))
  have G5 := hide (row_keep (unhide G4) hbb)
  have H5 := hide (row_keep (unhide H4) hbb)
  have X5 := hide ((unhide X4).later hbb)
  have Y5 := hide ((unhide Y4).later hbb)
  clear hbb B4 G4 H4 X4 Y4
  have hbb := below_new (w4.alloc (.cells #[.int .i64 ((n2 : Int) * 200), .int .i64 ((n3 : Int) * 3), .int .i64 (n4 : Int)] 3)) (.cells #[.string ⟨#[103]⟩, .string ⟨#[104]⟩] 9)
  have U6' := rdu_lit (w4.alloc (.cells #[.int .i64 ((n2 : Int) * 200), .int .i64 ((n3 : Int) * 3), .int .i64 (n4 : Int)] 3))
  rw [show (w4.alloc (.cells #[.int .i64 ((n2 : Int) * 200), .int .i64 ((n3 : Int) * 3), .int .i64 (n4 : Int)] 3)).heap.size = w4.heap.size + 1 by simp] at U6'
  have U6 := hide U6'
  clear U6'
  have B6 := hide ((unhide B5).trans (hbb.mono (unhide B5).size))
  have G6 := hide (row_keep (unhide G5) hbb)
  have H6 := hide (row_keep (unhide H5) hbb)
  have X6 := hide ((unhide X5).later hbb)
  have Y6 := hide ((unhide Y5).later hbb)
  have R6 := hide ((unhide R5).later hbb)
  clear hbb B5 G5 H5 X5 Y5 R5
  have T5 := hide (unhide AT 5 (by omega) _ (unhide B6))
  have T6 := hide (unhide AT 6 (by omega) _ (unhide B6))
  go_wp2_with fail
  generalize hw6 : (w4.alloc (.cells #[.int .i64 ((n2 : Int) * 200), .int .i64 ((n3 : Int) * 3), .int .i64 (n4 : Int)] 3)).alloc (.cells #[.string ⟨#[103]⟩, .string ⟨#[104]⟩] 9) = w6 at *
  refine (unhide T5).mono ?_
  rintro r wx ⟨⟨n5, hn5, rfl⟩, hwx⟩
  rw [hwx]
  clear hwx wx T5
  go_wp2_with fail
  refine (unhide T6).mono ?_
  rintro r wx ⟨⟨n6, hn6, rfl⟩, hwx⟩
  rw [hwx]
  clear hwx wx T6
  have hbb := below_new w6 (.cells #[.int .i64 ((n5 : Int) * 111), .int .i64 (n6 : Int)] 3)
  have V7 := hide (show RdN (w6.alloc (.cells #[.int .i64 ((n5 : Int) * 111), .int .i64 (n6 : Int)] 3)) (some ⟨w6.heap.size, 0, none⟩) [(n5 : Int) * 111, (n6 : Int)] from RdN_lit w6 [(n5 : Int) * 111, (n6 : Int)])
  have B7 := hide ((unhide B6).trans (hbb.mono (unhide B6).size))
  have G7 := hide (row_keep (unhide G6) hbb)
  have H7 := hide (row_keep (unhide H6) hbb)
  have X7 := hide ((unhide X6).later hbb)
  have Y7 := hide ((unhide Y6).later hbb)
  have R7 := hide ((unhide R6).later hbb)
  have U7 := hide ((unhide U6).later hbb)
  clear hbb B6 G6 H6 X6 Y6 R6 U6
  have A7 := hide (unhide WX [(n2 : Int) * 200, (n3 : Int) * 3, (n4 : Int)] [(n5 : Int) * 111, (n6 : Int)] _ _ _ _ rfl rfl (unhide B7) (unhide X7).rd (unhide R7) (unhide U7) (unhide V7))
  have W7 := hide (fun wr x1 x2 x3 (hb : Below w.heap.size w wr) h0 q1 q2 q3 => unhide WF d dp [(n2 : Int) * 200, (n3 : Int) * 3, (n4 : Int)] [(n5 : Int) * 111, (n6 : Int)] wr x1 x2 x3 rfl rfl hb h0 q1 q2 q3)
  have HO := hide (fun v => unhide WW [(n2 : Int) * 200, (n3 : Int) * 3, (n4 : Int)] [(n5 : Int) * 111, (n6 : Int)] (v := v))
  generalize worthA [(n2 : Int) * 200, (n3 : Int) * 3, (n4 : Int)] [⟨#[103]⟩, ⟨#[104]⟩] [(n5 : Int) * 111, (n6 : Int)] x = o1 at *
  generalize worthA [(n2 : Int) * 200, (n3 : Int) * 3, (n4 : Int)] [⟨#[103]⟩, ⟨#[104]⟩] [(n5 : Int) * 111, (n6 : Int)] E = o2 at *
  clear WX WF WW
  go_wp2_with (refine wpList_load_row rfl 26 _ rfl g0 rfl 26 #[.int .i64 ek, .int .i64 en, .string es, .slice c el cp] (0, 0) _ (unhide G7) Tryd.underlying26 rfl (by kernel_rfl) ?_)
  generalize w6.alloc (.cells #[.int .i64 ((n5 : Int) * 111), .int .i64 (n6 : Int)] 3) = w7 at *
  refine (unhide A7).mono ?_
  rintro r w8 ⟨rfl, hbb⟩
  clear A7
  have B8 := hide ((unhide B7).trans (hbb.mono (unhide B7).size))
  have G8 := hide (row_keep (unhide G7) hbb)
  have H8 := hide (row_keep (unhide H7) hbb)
  have X8 := hide ((unhide X7).later hbb)
  have Y8 := hide ((unhide Y7).later hbb)
  have R8 := hide ((unhide R7).later hbb)
  have U8 := hide ((unhide U7).later hbb)
  have V8 := hide ((unhide V7).later hbb)
  clear hbb B7 G7 H7 X7 Y7 R7 U7 V7
  have A8 := hide (unhide W7 w8 _ _ _ (unhide B8) (unhide Y8).rd (unhide R8) (unhide U8) (unhide V8))
  clear W7
  go_wp2_with (refine wpList_load_row rfl 26 _ rfl g1 rfl 26 #[.int .i64 fk, .int .i64 fn, .string fs, .slice d fl dp] (0, 0) _ (unhide H8) Tryd.underlying26 rfl (by kernel_rfl) ?_)
  refine (unhide A8).mono ?_
  rintro r w9 ⟨rfl, hbb⟩
  clear A8 R8 U8 V8
  have B9 := hide ((unhide B8).trans (hbb.mono (unhide B8).size))
  have G9 := hide (row_keep (unhide G8) hbb)
  have H9 := hide (row_keep (unhide H8) hbb)
  have X9 := hide ((unhide X8).later hbb)
  have Y9 := hide ((unhide Y8).later hbb)
  clear hbb B8 G8 H8 X8 Y8
  generalize hz1 : o1.getD 0 = z1 at *
  generalize hq1 : o1.isSome = q1 at *
  generalize hz2 : o2.getD 0 = z2 at *
  generalize hq2 : o2.isSome = q2 at *
  have HO2 := hide (show q1 = true → q2 = true ∧ z1 = z2 from fun h => by
    cases o1 with
    | none => rw [← hq1] at h; cases h
    | some v => have := unhide HO v rfl; subst this; exact ⟨hq2.symm, hz1.symm.trans hz2⟩)
  clear hz1 hq1 hz2 hq2 HO
  go_wp2_with fail
  have hbb := below_drew (w := w9)
  have B10 := hide ((unhide B9).trans (hbb.mono (unhide B9).size))
  have G10 := hide (row_keep (unhide G9) hbb)
  have H10 := hide (row_keep (unhide H9) hbb)
  have X10 := hide ((unhide X9).later hbb)
  have Y10 := hide ((unhide Y9).later hbb)
  clear hbb B9 G9 H9 X9 Y9
  have D0 := hide (show (fun w' => w'.heap[g0]? = some (.cells #[.int .i64 ek, .int .i64 en, .string es, .slice c el cp] 26 (0, 0)) ∧ w'.heap[g1]? = some (.cells #[.int .i64 fk, .int .i64 fn, .string fs, .slice d fl dp] 26 (0, 0))) w9.drew from ⟨unhide G10, unhide H10⟩)
  refine wp_region_held_drew (S := fun w' => w'.heap[g0]? = some (.cells #[.int .i64 ek, .int .i64 en, .string es, .slice c el cp] 26 (0, 0)) ∧ w'.heap[g1]? = some (.cells #[.int .i64 fk, .int .i64 fn, .string fs, .slice d fl dp] 26 (0, 0))) (by kernel_rfl) (unhide D0) (fun hS => ?_)
  have HS := hide hS
  clear hS D0
  generalize w9.drew = w10 at *
  refine wpAnyH_take (i := 0) (v := .agg #[.int .i64 fk, .int .i64 fn, .string fs, .slice d fl dp]) rfl (by kernel_rfl) (by kernel_rfl) (by kernel_rfl) (fun _ _ _ h => h) (yields_loadG (by rfl) 26 _ rfl g1 rfl 26 #[.int .i64 fk, .int .i64 fn, .string fs, .slice d fl dp] _ (fun w h => h.2) Tryd.underlying26 rfl (by kernel_rfl)) (unhide HS) ?_
  go_simp
  refine wpAnyH_take (i := 1) (v := .agg #[.int .i64 ek, .int .i64 en, .string es, .slice c el cp]) rfl (by kernel_rfl) (by kernel_rfl) (by kernel_rfl) (fun _ _ _ h => h) (yields_loadG (by rfl) 26 _ rfl g0 rfl 26 #[.int .i64 ek, .int .i64 en, .string es, .slice c el cp] _ (fun w h => h.1) Tryd.underlying26 rfl (by kernel_rfl)) (unhide HS) ?_
  go_simp
  refine wpAnyH_ready (rs := [2]) (by kernel_rfl) (by simp) ?_
  refine AllReadyH.cons rfl (fun K2 hK => ?_) AllReadyH.nil
  go_simp
  refine (unhide FS w10 (unhide X10).rd).mono ?_
  rintro r w11 ⟨c2, cp2, rfl, hpx, hbb⟩
  have Z11 := hide (show ∃ F, OwX w11 E c2 F by obtain ⟨F, q, _⟩ := hpx; exact ⟨F, q⟩)
  clear hpx
  have B11 := hide ((unhide B10).trans (hbb.mono (unhide B10).size))
  have G11 := hide (row_keep (unhide G10) hbb)
  have H11 := hide (row_keep (unhide H10) hbb)
  have X11 := hide ((unhide X10).later hbb)
  have Y11 := hide ((unhide Y10).later hbb)
  clear hbb B10 G10 H10 X10 Y10
  refine hK.out _ _ (⟨unhide G11, unhide H11⟩) (fun hS => ?_)
  clear HS
  have HS := hide hS
  clear hS hK K2
  refine wpAnyH_ready (rs := [3]) (by kernel_rfl) (by simp) ?_
  refine AllReadyH.cons rfl (fun K2 hK => ?_) AllReadyH.nil
  go_simp
  refine (unhide SA d c2 dp cp2 w11 (by obtain ⟨F, q1, _, _⟩ := unhide Y11; exact ⟨F, q1⟩) (unhide Z11)).mono ?_
  rintro r w12 ⟨rfl, hbb⟩
  clear Z11
  have B12 := hide ((unhide B11).trans (hbb.mono (unhide B11).size))
  have G12 := hide (row_keep (unhide G11) hbb)
  have H12 := hide (row_keep (unhide H11) hbb)
  have X12 := hide ((unhide X11).later hbb)
  have Y12 := hide ((unhide Y11).later hbb)
  clear hbb B11 G11 H11 X11 Y11
  refine hK.out _ _ (⟨unhide G12, unhide H12⟩) (fun hS => ?_)
  clear HS
  have HS := hide hS
  clear hS hK K2
  refine wpAnyH_take (i := 4) (v := .bool false) rfl (by kernel_rfl) (by kernel_rfl) (by kernel_rfl) (fun _ _ _ h => h) (Or.inl ⟨by rfl, fun w hc => ?_⟩) (unhide HS) ?_
  · clear hc; go_simp
  go_simp
  refine wpAnyH_take (i := 5) (v := .bool false) rfl (by kernel_rfl) (by kernel_rfl) (by kernel_rfl) (fun _ _ _ h => h) (Or.inl ⟨by rfl, fun w hc => ?_⟩) (unhide HS) ?_
  · clear hc; go_simp
  go_simp
  refine wpAnyH_take (i := 6) (v := .agg #[.int .i64 fk, .int .i64 fn, .string fs, .slice d fl dp]) rfl (by kernel_rfl) (by kernel_rfl) (by kernel_rfl) (fun _ _ _ h => h) (yields_loadG (by rfl) 26 _ rfl g1 rfl 26 #[.int .i64 fk, .int .i64 fn, .string fs, .slice d fl dp] _ (fun w h => h.2) Tryd.underlying26 rfl (by kernel_rfl)) (unhide HS) ?_
  go_simp
  refine wpAnyH_take (i := 8) (v := .agg #[.int .i64 ek, .int .i64 en, .string es, .slice c el cp]) rfl (by kernel_rfl) (by kernel_rfl) (by kernel_rfl) (fun _ _ _ h => h) (yields_loadG (by rfl) 26 _ rfl g0 rfl 26 #[.int .i64 ek, .int .i64 en, .string es, .slice c el cp] _ (fun w h => h.1) Tryd.underlying26 rfl (by kernel_rfl)) (unhide HS) ?_
  go_simp
  refine wpAnyH_ready (rs := [7]) (by kernel_rfl) (by simp) ?_
  refine AllReadyH.cons rfl (fun K2 hK => ?_) AllReadyH.nil
  go_simp
  refine (unhide OF d dp w12 (unhide B12) (unhide Y12).rd).mono ?_
  rintro r w13 ⟨rfl, hbb⟩
  have B13 := hide ((unhide B12).trans (hbb.mono (unhide B12).size))
  have G13 := hide (row_keep (unhide G12) hbb)
  have H13 := hide (row_keep (unhide H12) hbb)
  have X13 := hide ((unhide X12).later hbb)
  have Y13 := hide ((unhide Y12).later hbb)
  clear hbb B12 G12 H12 X12 Y12
  refine hK.out _ _ (⟨unhide G13, unhide H13⟩) (fun hS => ?_)
  clear HS
  have HS := hide hS
  clear hS hK K2
  refine wpAnyH_ready (rs := [9]) (by kernel_rfl) (by simp) ?_
  refine AllReadyH.cons rfl (fun K2 hK => ?_) AllReadyH.nil
  go_simp
  refine (unhide OX w13 (unhide B13) (unhide X13).rd).mono ?_
  rintro r w14 ⟨rfl, hbb⟩
  have B14 := hide ((unhide B13).trans (hbb.mono (unhide B13).size))
  have G14 := hide (row_keep (unhide G13) hbb)
  have H14 := hide (row_keep (unhide H13) hbb)
  have X14 := hide ((unhide X13).later hbb)
  have Y14 := hide ((unhide Y13).later hbb)
  clear hbb B13 G13 H13 X13 Y13
  refine hK.out _ _ (⟨unhide G14, unhide H14⟩) (fun hS => ?_)
  clear HS
  have HS := hide hS
  clear hS hK K2
  refine wpAnyH_take (i := 10) (v := .bool false) rfl (by kernel_rfl) (by kernel_rfl) (by kernel_rfl) (fun _ _ _ h => h) (Or.inl ⟨by rfl, fun w hc => ?_⟩) (unhide HS) ?_
  · clear hc; go_simp
  go_simp
  refine wpAnyH_take (i := 11) (v := .bool false) rfl (by kernel_rfl) (by kernel_rfl) (by kernel_rfl) (fun _ _ _ h => h) (Or.inl ⟨by rfl, fun w hc => ?_⟩) (unhide HS) ?_
  · clear hc; go_simp
  go_simp
  refine wpAnyH_take (i := 12) (v := .bool false) rfl (by kernel_rfl) (by kernel_rfl) (by kernel_rfl) (fun _ _ _ h => h) (Or.inl ⟨by rfl, fun w hc => ?_⟩) (unhide HS) ?_
  · clear hc; go_simp
  go_simp
  refine wpAnyH_take (i := 13) (v := .agg #[.int .i64 fk, .int .i64 fn, .string fs, .slice d fl dp]) rfl (by kernel_rfl) (by kernel_rfl) (by kernel_rfl) (fun _ _ _ h => h) (yields_loadG (by rfl) 26 _ rfl g1 rfl 26 #[.int .i64 fk, .int .i64 fn, .string fs, .slice d fl dp] _ (fun w h => h.2) Tryd.underlying26 rfl (by kernel_rfl)) (unhide HS) ?_
  go_simp
  refine wpAnyH_take (i := 15) (v := .agg #[.int .i64 fk, .int .i64 fn, .string fs, .slice d fl dp]) rfl (by kernel_rfl) (by kernel_rfl) (by kernel_rfl) (fun _ _ _ h => h) (yields_loadG (by rfl) 26 _ rfl g1 rfl 26 #[.int .i64 fk, .int .i64 fn, .string fs, .slice d fl dp] _ (fun w h => h.2) Tryd.underlying26 rfl (by kernel_rfl)) (unhide HS) ?_
  go_simp
  refine wpAnyH_ready (rs := [14]) (by kernel_rfl) (by simp) ?_
  refine AllReadyH.cons rfl (fun K2 hK => ?_) AllReadyH.nil
  go_simp
  refine (unhide FJ d dp w14 (unhide B14) (by obtain ⟨F, q1, q2, _⟩ := unhide Y14; exact ⟨F, q1, q2⟩)).mono ?_
  rintro r w15 ⟨f2, fp2, rfl, hnx, hbb⟩
  have Z15 := hide (show ∃ F, OwX w15 E f2 F by obtain ⟨F, q, _⟩ := hnx; exact ⟨F, q⟩)
  clear hnx
  have B15 := hide ((unhide B14).trans (hbb.mono (unhide B14).size))
  have G15 := hide (row_keep (unhide G14) hbb)
  have H15 := hide (row_keep (unhide H14) hbb)
  have X15 := hide ((unhide X14).later hbb)
  have Y15 := hide ((unhide Y14).later hbb)
  clear hbb B14 G14 H14 X14 Y14
  refine hK.out _ _ (⟨unhide G15, unhide H15⟩) (fun hS => ?_)
  clear HS
  have HS := hide hS
  clear hS hK K2
  refine wpAnyH_ready (rs := [16]) (by kernel_rfl) (by simp) ?_
  refine AllReadyH.cons rfl (fun K2 hK => ?_) AllReadyH.nil
  go_simp
  refine (unhide SA f2 d fp2 dp w15 (unhide Z15) (by obtain ⟨F, q1, _, _⟩ := unhide Y15; exact ⟨F, q1⟩)).mono ?_
  rintro r w16 ⟨rfl, hbb⟩
  clear Z15
  have B16 := hide ((unhide B15).trans (hbb.mono (unhide B15).size))
  have G16 := hide (row_keep (unhide G15) hbb)
  have H16 := hide (row_keep (unhide H15) hbb)
  have X16 := hide ((unhide X15).later hbb)
  have Y16 := hide ((unhide Y15).later hbb)
  clear hbb B15 G15 H15 X15 Y15
  refine hK.out _ _ (⟨unhide G16, unhide H16⟩) (fun hS => ?_)
  clear HS
  have HS := hide hS
  clear hS hK K2
  refine wpAnyH_take (i := 17) (v := .bool false) rfl (by kernel_rfl) (by kernel_rfl) (by kernel_rfl) (fun _ _ _ h => h) (Or.inl ⟨by rfl, fun w hc => ?_⟩) (unhide HS) ?_
  · clear hc; go_simp
  go_simp
  refine wpAnyH_take (i := 18) (v := .bool false) rfl (by kernel_rfl) (by kernel_rfl) (by kernel_rfl) (fun _ _ _ h => h) (Or.inl ⟨by rfl, fun w hc => ?_⟩) (unhide HS) ?_
  · clear hc; go_simp
  go_simp
  refine wpAnyH_done (by kernel_rfl) ?_ _
  clear HS
  cases q1 with
  | false =>
    go_wp2
    go_ret
    exact ⟨rfl, unhide B16⟩
  | true =>
    obtain ⟨e1, e2⟩ := unhide HO2 rfl
    subst e1 e2
    go_wp2
    go_ret
    exact ⟨rfl, unhide B16⟩

set_option maxRecDepth 100000 in
theorem lifted (os : Os) (started : os.Started) (H : Type) (enc : TypeId × Value → H) :
    ReturnsInHanded {} Tryd.checked os 3 .any (fun w args => (Rows.fnFoldsSpec.pre enc Tryd.prog Tryd.f3 [] false w args ∧ laidMetH Tryd.prog Rows.fnFoldsRow.laid w) ∧ sizedMet enc Tryd.prog Tryd.f3 (OpenSpec.ofChange Rows.fnFoldsSpec) false w args)
      (Rows.fnFoldsSpec.post enc Tryd.prog Tryd.f3 false true false false) := by
  refine returnsInHanded_of_change_and (C := Tryd.checked) (X := fun w _ => laidMetH Tryd.prog Rows.fnFoldsRow.laid w) (fun _ _ _ hh h => h.of_heap hh) own started (by kernel_rfl) Tryd.func3
    (ChangeSpec.witness_shaped (enc := enc) (C := Tryd.checked) (os := os) (X := fun w _ => laidMetH Tryd.prog Rows.fnFoldsRow.laid w) false (World.laidAll Tryd.prog os Rows.fnFoldsRow.laid) #[.slice none 0 0] 8 (World.laidAll_os _ _ _)
      (World.shaped_of_ZipB (by kernel_rfl) (by kernel_rfl)) (by kernel_rfl) (by kernel_rfl) (by kernel_rfl)
      (by rw [MakeChecks.laidMetH_plain _ _ _ (by kernel_rfl)]; exact laidMet_laidAll _ (by kernel_rfl) (by kernel_rfl))) ?_
  intro W base args ds gs before hval0 hW _ _ hL _
  have hval : ∀ (j : Nat) t v, Tryd.f3.params[j]? = some t → args[j]? = some v → Value.okWide Tryd.prog W .any base t v := hval0
  have hW' := hW
  obtain ⟨p, q, hA0, hV, rfl, hfz, hnd⟩ := hW
  have hA : DataW.TrodAll enc Tryd.prog W 0 (fun _ => true) true Tryd.f3.params.toList args.toList ds p := hA0
  rw [Tryd.params3] at hA hval
  obtain ⟨v0, vs0, d0, ds0, p0, q0, hargs, rfl, rfl, h0, r0⟩ := trodAll_cons hA
  obtain ⟨rfl, rfl, rfl⟩ := trodAll_nil r0
  obtain rfl : args = #[v0] := by cases args; simp_all
  have kV := hV
  obtain ⟨gv, tv, cv, fv, dv, pv, gu, tu, cu, fu, du, pu, rfl, _⟩ := trodVars_two hV
  have k0 := h0
  have lt0 : ∀ x ∈ p0, x.block < W.heap.size := by obtain ⟨m, hm⟩ := k0; exact DataW.trod_lt m _ _ _ hm
  obtain ⟨a0, len0, cap0, rfl⟩ := okWide_slice Tryd.underlying22 (hval 0 22 v0 rfl rfl)
  obtain ⟨z0, w0⟩ : ∃ zs, IsRow .u8 W a0 len0 cap0 zs := by
    obtain ⟨fuel, hf⟩ := h0
    rcases open_ints Tryd.underlying22 Tryd.underlying5 (by kernel_rfl) hf with ⟨hcs, _⟩ | ⟨x, l, c, zs, hcs, _, hl, hm, hz, _, hcell, hwz⟩
    · simp [Value.cells] at hcs
      obtain ⟨rfl, rfl, rfl⟩ := hcs
      exact ⟨[], .inl ⟨rfl, rfl, rfl, rfl⟩⟩
    · simp [Value.cells] at hcs
      obtain ⟨rfl, rfl, rfl⟩ := hcs
      exact ⟨zs, .inr ⟨_, rfl, hl, hm, by simpa using hz, hcell, hwz⟩⟩
  clear hA0 hval0
  refine (walk a0 len0 cap0 z0 W w0 (tab_of_laid hL)).mono fun e W' ⟨he, bel⟩ => ?_
  subst he
  exact ⟨_, rfl, _, _, _, [], _, _, hW', trodAll_mk1 (shut_bool Tryd.underlying4 _), (trodAll_cons_mk (Below.trod laidOut (by kernel_rfl) (of_decide_eq_true (by kernel_rfl)) k0 bel lt0) trodAll_mk0), bel.trodVars laidOut (by kernel_rfl) kV, bel.frame _, fun h => by cases h⟩

theorem proved : Rows.FnFoldsSaid :=
  OpenClaim.holds_of_wide 3 Tryd.f3 rfl rfl rfl rfl rfl rfl rfl ⟨rfl, rfl, rfl, rfl, rfl⟩ rfl rfl rfl rfl rfl (by kernel_rfl) Tryd.func3 (by kernel_rfl)
    (of_decide_eq_true (by kernel_rfl)) (by unfold Func.isWrapper; first | (rw [if_pos (by decide +kernel)]; kernel_rfl) | (rw [if_neg (by decide +kernel)]; exact ⟨rfl, rfl⟩))
    (fun os started H enc _ => lifted os started H enc)
end Go.Proofs.YtkolflcjkofleaaDoor.fnFolds

namespace Go.Proofs.YtkolflcjkofleaaDoor
theorem fnFolds_holds : Rows.FnFoldsCardSaid :=
  Claim7.holds_tied_plain_at .later [] [.data, .data] true (true, "bb0bc1b0fb6fad9ee741dbe94bc6d927b19996896d356a68a721711bb659e7ab") true
    fnFolds.proved (fun _ h => by cases h) (by kernel_rfl) (fun _ h => by cases h) fnFolds_row_tie rfl ⟨rfl, rfl⟩ (by kernel_rfl) rfl
    (fun f fn hf hfn => by
      obtain rfl : f = 3 := Option.some.inj ((show Tryd.prog.funcNamed "loop.example/g00329/laws.FnFolds" = some 3 by kernel_rfl).symm.trans hf) |>.symm
      obtain rfl : fn = Tryd.f3 := (Option.some.inj (Tryd.func3.symm.trans hfn)).symm
      exact ⟨by kernel_rfl, fun j t ht => by
        rw [Tryd.params3] at ht
        have hm : t ∈ [22] := by simpa using Array.mem_of_getElem? ht
        have hall : ([22].all fun u => !Tryd.prog.wantsStandIn u) = true := by kernel_rfl
        exact (show Tryd.prog.wantsStandIn t = false by simpa using List.all_eq_true.1 hall t hm)⟩)
    (by kernel_rfl)
#print axioms fnFolds_holds
end Go.Proofs.YtkolflcjkofleaaDoor
