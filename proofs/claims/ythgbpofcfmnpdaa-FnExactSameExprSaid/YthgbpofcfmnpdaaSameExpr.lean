/- FnExactSameExpr returns true for every two terms -/
import Derived.Test.YthgbpofcfmnpdaaRows
import Derived.Test.YthgbpofcfmnpdaaSmB
import Derived.Test.YthgbpofcfmnpdaaSmF
import Derived.Test.YthgbpofcfmnpdaaHeT
import Derived.Test.YthgbpofcfmnpdaaOxH
import Derived.Test.YthgbpofcfmnpdaaOxI
import Derived.Test.YthgbpofcfmnpdaaExE
import Derived.Test.YthgbpofcfmnpdaaExD
import Derived.WalkKit
import Derived.ProofKit
import Derived.OpenShut
import Derived.ShutString
import Derived.ChangeOld
import Derived.Below
namespace Go.Proofs.Ythgbpofcfmnpdaa.fnExactSameExpr
open Go.ChangeShapes Go.WideShapes Go.ChangeAt Go.RowKit
open Go.ChangeMaps (open_string shut_string)
set_option linter.unusedVariables false

theorem own : ownKnob Try.prog.godebug = none := by kernel_rfl
theorem laidOut : laidOutB Try.prog = true := by kernel_rfl

set_option maxHeartbeats 4000000 in
theorem walk (a : Ex) (pa : Option Addr) (ca : Nat) (b : Ex) (pb : Option Addr) (cb : Nat) (w : World) (ha : RdX w 0 a pa) (fa : Fit a) (hb : RdX w 0 b pb) (fb : Fit b) : Calls Try.prog 3 #[.agg (a.cs pa ca), .agg (b.cs pb cb)] w fun r w' => r = .returned (.bool true) ∧ Below w.heap.size w w' := by
  have B0 := hide (show Below w.heap.size w ((w.alloc (.cells (a.cs pa ca) 24)).alloc (.cells (b.cs pb cb) 24)) from ((Below.refl _ _).alloc (Nat.le_refl _) _).alloc (by simp) _)
  have SA := hide (szX_any a pa ca 1048576 _ (ha.later (unhide B0)) fa (by omega) (by omega))
  have SB := hide (fun l (h0 : 0 ≤ l) h1 wr (h : RdX wr 0 b pb) => szX_any b pb cb l wr h fb h0 h1)
  have RA0 := hide (ha.later (unhide B0))
  have RB0 := hide (hb.later (unhide B0))
  have xl : w.heap.size + 1 < ((w.alloc (.cells (a.cs pa ca) 24)).alloc (.cells (b.cs pb cb) 24)).heap.size := by simp
  have hgA : ((w.alloc (.cells (a.cs pa ca) 24)).alloc (.cells (b.cs pb cb) 24)).heap[w.heap.size]? = some (.cells (a.cs pa ca) 24 (0, 0)) := by
    have := Array.getElem?_push_size (xs := w.heap) (x := Obj.cells (a.cs pa ca) 24 (0, 0))
    exact ((((Below.refl _ (w.alloc (.cells (a.cs pa ca) 24))).alloc (Nat.le_refl _) (.cells (b.cs pb cb) 24)).block _ (by simp)).trans this)
  have hgB : ((w.alloc (.cells (a.cs pa ca) 24)).alloc (.cells (b.cs pb cb) 24)).heap[w.heap.size + 1]? = some (.cells (b.cs pb cb) 24 (0, 0)) := by
    have e : (w.alloc (.cells (a.cs pa ca) 24)).heap.size = w.heap.size + 1 := by simp
    rw [← e]; exact Array.getElem?_push_size
  obtain ⟨W, hW⟩ : ∃ W, (w.alloc (.cells (a.cs pa ca) 24)).alloc (.cells (b.cs pb cb) 24) = W := ⟨_, rfl⟩
  rw [hW] at B0 SA RA0 RB0 xl hgA hgB
  have GA := hide (fun w1 (hb : Below W.heap.size W w1) => row_keep hgA hb)
  have GB := hide (fun w1 (hb : Below W.heap.size W w1) => row_keep hgB hb)
  have TA := hide (fun (h : a.sz ≤ 1048576) wr (hr : RdX wr 0 a pa) => toX_any a pa ca wr hr h)
  have TB := hide (fun (h : b.sz ≤ 1048576) wr (hr : RdX wr 0 b pb) => toX_any b pb cb wr hr h)
  have SS := hide (fun (h : a.sz ≤ 1048576) (h' : b.sz ≤ 1048576) wr c cp d dp (h1 : RdX wr 0 a c) (h2 : RdX wr 0 b d) => sameS_any a b c d cp dp wr h1 h2 h h')
  have SI := hide (fun (h : a.sz ≤ 1048576) wr c cp d dp (h1 : ∃ F, OwX wr a c F) (h2 : ∃ F, OwX wr b d F) => sameI_any a b c d cp dp wr h1 h2 h)
  have EA := hide (fun (h : a.sz ≤ 1048576) wr c d cp cq (h1 : RdX wr 0 a c) (h2 : RdX wr 0 a d) => eqX_same a c d cp cq wr h1 h2 h)
  have EB := hide (fun (h : b.sz ≤ 1048576) wr c d cp cq (h1 : RdX wr 0 b c) (h2 : RdX wr 0 b d) => eqX_same b c d cp cq wr h1 h2 h)
  have NA := hide (fun wr B c (h : NewX wr B a c) => h.rd.lower (Nat.zero_le _) _ _)
  have NB := hide (fun wr B c (h : NewX wr B b c) => h.rd.lower (Nat.zero_le _) _ _)
  have LA := hide (fun wr w2 c (h : RdX wr 0 a c) (hb : Below wr.heap.size wr w2) => h.later hb)
  have LB := hide (fun wr w2 c (h : RdX wr 0 b c) (hb : Below wr.heap.size wr w2) => h.later hb)
  have OA := hide (fun wr B c w2 (h : NewX wr B a c) (hb : Below wr.heap.size wr w2) => h.later hb)
  have OB := hide (fun wr B c w2 (h : NewX wr B b c) (hb : Below wr.heap.size wr w2) => h.later hb)
  have FA := hide (fun wr B c (h : NewX wr B a c) => (show ∃ F, OwX wr a c F from h.imp fun F h => h.1))
  have FB := hide (fun wr B c (h : NewX wr B b c) => (show ∃ F, OwX wr b c F from h.imp fun F h => h.1))
  clear ha hb fa fb
  generalize hza : a.sz = za at *
  generalize hzb : b.sz = zb at *
  generalize sameX a b = q at *
  unfold Ex.cs at SA SB TA TB SS SI EA EB GA GB hgA hgB hW ⊢
  generalize a.k = ak at *
  generalize a.n = an at *
  generalize a.s = sa at *
  generalize a.l.length = al at *
  generalize b.k = bk at *
  generalize b.n = bn at *
  generalize b.s = sb at *
  generalize b.l.length = bl at *
  have YA := hide (fun w1 (hb : Below W.heap.size W w1) => (⟨Lib.cell_of_heap (unhide GA w1 hb) 0, Lib.cell_of_heap (unhide GA w1 hb) 1, Lib.cell_of_heap (unhide GA w1 hb) 2, Lib.cell_of_heap (unhide GA w1 hb) 3⟩ : _ ∧ _ ∧ _ ∧ _))
  have YB := hide (fun w1 (hb : Below W.heap.size W w1) => (⟨Lib.cell_of_heap (unhide GB w1 hb) 0, Lib.cell_of_heap (unhide GB w1 hb) 1, Lib.cell_of_heap (unhide GB w1 hb) 2, Lib.cell_of_heap (unhide GB w1 hb) 3⟩ : _ ∧ _ ∧ _ ∧ _))
  obtain ⟨x0, x1, x2, x3⟩ := unhide YA W (Below.refl _ _)
  clear hgA hgB
  go_enter Try.func3, Try.ntmps3
  go_wp2_with fail
  refine (unhide SA).mono ?_
  rintro r w1 ⟨rfl, hb1⟩
  have B1 := hide hb1
  have A1 := hide ((unhide B0).trans (hb1.mono (unhide B0).size))
  have RA1 := hide (unhide LA _ _ _ (unhide RA0) hb1)
  have RB1 := hide (unhide LB _ _ _ (unhide RB0) hb1)
  obtain ⟨y0, y1, y2, y3⟩ := unhide YB w1 hb1
  clear hb1 SA x0 x1 x2 x3 RA0 RB0
  unfold lessX
  by_cases hneg : (1048576 : Int) - (za : Int) < 0
  · rw [if_pos hneg]
    go_wp2
    go_ret
    exact ⟨rfl, unhide A1⟩
  rw [if_neg hneg]
  have hz1 : za ≤ 1048576 := by omega
  have SB1 := hide (unhide SB ((1048576 : Int) - (za : Int)) (by omega) (by omega) w1 (unhide RB1))
  clear SB
  go_wp2_with fail
  refine (unhide SB1).mono ?_
  rintro r w2 ⟨rfl, hb2⟩
  have B2 := hide ((unhide B1).trans (hb2.mono (unhide B1).size))
  have A2 := hide ((unhide A1).trans (hb2.mono (unhide A1).size))
  have RA2 := hide (unhide LA _ _ _ (unhide RA1) hb2)
  have RB2 := hide (unhide LB _ _ _ (unhide RB1) hb2)
  clear hb2 SB1 RA1 RB1 B1 A1 y0 y1 y2 y3
  unfold lessX
  by_cases hneg2 : (1048576 : Int) - (za : Int) - (zb : Int) < 0
  · rw [if_pos hneg2]
    go_wp2
    go_ret
    exact ⟨rfl, unhide A2⟩
  rw [if_neg hneg2]
  have hz2 : zb ≤ 1048576 := by omega
  have TA2 := hide (unhide TA hz1)
  have TB2 := hide (unhide TB hz2)
  have SS2 := hide (unhide SS hz1 hz2)
  have SI2 := hide (unhide SI hz1)
  have EA2 := hide (unhide EA hz1)
  have EB2 := hide (unhide EB hz2)
  clear TA TB SS SI EA EB
  have D0 := hide (show (fun w' => w'.heap[w.heap.size]? = some (.cells #[.int .i64 ak, .int .i64 an, .string sa, .slice pa al ca] 24 (0, 0)) ∧ w'.heap[w.heap.size + 1]? = some (.cells #[.int .i64 bk, .int .i64 bn, .string sb, .slice pb bl cb] 24 (0, 0))) w2.drew from ⟨row_keep (unhide GA _ (unhide B2)) below_drew, row_keep (unhide GB _ (unhide B2)) below_drew⟩)
  go_wp2_with fail
  refine wp_region_held_drew (S := fun w' => w'.heap[w.heap.size]? = some (.cells #[.int .i64 ak, .int .i64 an, .string sa, .slice pa al ca] 24 (0, 0)) ∧ w'.heap[w.heap.size + 1]? = some (.cells #[.int .i64 bk, .int .i64 bn, .string sb, .slice pb bl cb] 24 (0, 0))) (by kernel_rfl) (unhide D0) (fun hS => ?_)
  have HS := hide hS
  clear hS
  refine wpAnyH_take (i := 0) (v := .agg #[.int .i64 ak, .int .i64 an, .string sa, .slice pa al ca]) rfl (by kernel_rfl) (by kernel_rfl) (by kernel_rfl) (fun _ _ _ h => h) (yields_loadG (by rfl) 24 _ rfl w.heap.size rfl 24 #[.int .i64 ak, .int .i64 an, .string sa, .slice pa al ca] _ (fun w h => h.1) Try.underlying24 rfl (by kernel_rfl)) (unhide HS) ?_
  go_simp
  refine wpAnyH_take (i := 2) (v := .agg #[.int .i64 bk, .int .i64 bn, .string sb, .slice pb bl cb]) rfl (by kernel_rfl) (by kernel_rfl) (by kernel_rfl) (fun _ _ _ h => h) (yields_loadG (by rfl) 24 _ rfl (w.heap.size + 1) rfl 24 #[.int .i64 bk, .int .i64 bn, .string sb, .slice pb bl cb] _ (fun w h => h.2) Try.underlying24 rfl (by kernel_rfl)) (unhide HS) ?_
  go_simp
  refine wpAnyH_ready (rs := [1]) (by kernel_rfl) (by simp) ?_
  refine AllReadyH.cons rfl (fun K2 hK => ?_) AllReadyH.nil
  go_simp
  refine (unhide TA2 _ (unhide LA _ _ _ (unhide RA2) below_drew)).mono ?_
  rintro r w3 ⟨c3, cp3, rfl, n3, hb3⟩
  refine hK.out _ _ (⟨row_keep (unhide D0).1 hb3, row_keep (unhide D0).2 hb3⟩) (fun hS => ?_)
  clear HS
  have HS := hide hS
  clear hS hK K2
  have hb3' : Below w2.heap.size w2 w3 := (below_drew (w := w2)).trans (hb3.mono (below_drew (w := w2)).size)
  have U3 := hide (unhide NA _ _ _ n3)
  have D1 := hide (unhide HS)
  have B3 := hide ((unhide B2).trans (hb3'.mono (unhide B2).size))
  have A3 := hide ((unhide A2).trans (hb3'.mono (unhide A2).size))
  have RA3 := hide (unhide LA _ _ _ (unhide RA2) hb3')
  have RB3 := hide (unhide LB _ _ _ (unhide RB2) hb3')
  clear B2 A2 RA2 RB2
  clear hb3 hb3' n3 D0
  refine wpAnyH_ready (rs := [3]) (by kernel_rfl) (by simp) ?_
  refine AllReadyH.cons rfl (fun K2 hK => ?_) AllReadyH.nil
  go_simp
  refine (unhide TB2 _ (unhide RB3)).mono ?_
  rintro r w4 ⟨c4, cp4, rfl, n4, hb4⟩
  refine hK.out _ _ (⟨row_keep (unhide D1).1 hb4, row_keep (unhide D1).2 hb4⟩) (fun hS => ?_)
  clear HS
  have HS := hide hS
  clear hS hK K2
  have V4 := hide (unhide NB _ _ _ n4)
  have D2 := hide (unhide HS)
  have B4 := hide ((unhide B3).trans (hb4.mono (unhide B3).size))
  have A4 := hide ((unhide A3).trans (hb4.mono (unhide A3).size))
  have RA4 := hide (unhide LA _ _ _ (unhide RA3) hb4)
  have RB4 := hide (unhide LB _ _ _ (unhide RB3) hb4)
  have U4 := hide (unhide LA _ _ _ (unhide U3) hb4)
  clear B3 A3 RA3 RB3 U3
  clear hb4 n4 D1
  refine wpAnyH_ready (rs := [4]) (by kernel_rfl) (by simp) ?_
  refine AllReadyH.cons rfl (fun K2 hK => ?_) AllReadyH.nil
  go_simp
  refine (unhide SS2 _ c3 cp3 c4 cp4 (unhide U4) (unhide V4)).mono ?_
  rintro r w5 ⟨rfl, hb5⟩
  refine hK.out _ _ (⟨row_keep (unhide D2).1 hb5, row_keep (unhide D2).2 hb5⟩) (fun hS => ?_)
  clear HS
  have HS := hide hS
  clear hS hK K2
  have B5 := hide ((unhide B4).trans (hb5.mono (unhide B4).size))
  have A5 := hide ((unhide A4).trans (hb5.mono (unhide A4).size))
  have RA5 := hide (unhide LA _ _ _ (unhide RA4) hb5)
  have RB5 := hide (unhide LB _ _ _ (unhide RB4) hb5)
  clear B4 A4 RA4 RB4
  clear hb5 D2 U4 V4 SS2
  refine wpAnyH_take (i := 5) (v := .bool q) rfl (by kernel_rfl) (by kernel_rfl) (by kernel_rfl) (fun _ _ _ h => h) (Or.inl ⟨by rfl, fun w hc => ?_⟩) (unhide HS) ?_
  · clear hc; go_simp
  go_simp
  refine wpAnyH_done (by kernel_rfl) ?_ _
  obtain ⟨y0, y1, y2, y3⟩ := unhide YA w5 (unhide B5)
  go_wp2_with fail
  refine (unhide TA2 _ (unhide RA5)).mono ?_
  rintro r w6 ⟨c6, cp6, rfl, n6, hb6⟩
  have B6 := hide ((unhide B5).trans (hb6.mono (unhide B5).size))
  have A6 := hide ((unhide A5).trans (hb6.mono (unhide A5).size))
  have RA6 := hide (unhide LA _ _ _ (unhide RA5) hb6)
  have RB6 := hide (unhide LB _ _ _ (unhide RB5) hb6)
  clear B5 A5 RA5 RB5
  have P6 := hide n6
  clear hb6 n6 y0 y1 y2 y3
  have hb7 := (Below.refl w6.heap.size w6).alloc (Nat.le_refl _) (.cells #[.int .i64 ak, .int .i64 an, .string sa, .slice c6 al cp6] 29)
  have hg7 : (w6.alloc (.cells #[.int .i64 ak, .int .i64 an, .string sa, .slice c6 al cp6] 29)).heap[w6.heap.size]? = some (.cells #[.int .i64 ak, .int .i64 an, .string sa, .slice c6 al cp6] 29 (0, 0)) := Array.getElem?_push_size
  obtain ⟨w7, hw7⟩ : ∃ w7, w6.alloc (.cells #[.int .i64 ak, .int .i64 an, .string sa, .slice c6 al cp6] 29) = w7 := ⟨_, rfl⟩
  rw [hw7] at hb7 hg7
  have G7 := hide hg7
  have B7 := hide ((unhide B6).trans (hb7.mono (unhide B6).size))
  have A7 := hide ((unhide A6).trans (hb7.mono (unhide A6).size))
  have RA7 := hide (unhide LA _ _ _ (unhide RA6) hb7)
  have RB7 := hide (unhide LB _ _ _ (unhide RB6) hb7)
  have P7 := hide (unhide OA _ _ _ _ (unhide P6) hb7)
  clear B6 A6 RA6 RB6 P6
  obtain ⟨y0, y1, y2, y3⟩ := unhide YB w7 (unhide B7)
  clear hb7 hg7
  go_wp2_with fail
  refine (unhide TB2 _ (unhide RB7)).mono ?_
  rintro r w8 ⟨c8, cp8, rfl, n8, hb8⟩
  have G8 := hide (row_keep (unhide G7) hb8)
  have B8 := hide ((unhide B7).trans (hb8.mono (unhide B7).size))
  have A8 := hide ((unhide A7).trans (hb8.mono (unhide A7).size))
  have RA8 := hide (unhide LA _ _ _ (unhide RA7) hb8)
  have RB8 := hide (unhide LB _ _ _ (unhide RB7) hb8)
  have P8 := hide (unhide OA _ _ _ _ (unhide P7) hb8)
  clear B7 A7 RA7 RB7 P7
  have T8 := hide n8
  clear hb8 n8 y0 y1 y2 y3 G7 hw7
  have hb9 := (Below.refl w8.heap.size w8).alloc (Nat.le_refl _) (.cells #[.int .i64 bk, .int .i64 bn, .string sb, .slice c8 bl cp8] 29)
  have hg9 : (w8.alloc (.cells #[.int .i64 bk, .int .i64 bn, .string sb, .slice c8 bl cp8] 29)).heap[w8.heap.size]? = some (.cells #[.int .i64 bk, .int .i64 bn, .string sb, .slice c8 bl cp8] 29 (0, 0)) := Array.getElem?_push_size
  obtain ⟨w9, hw9⟩ : ∃ w9, w8.alloc (.cells #[.int .i64 bk, .int .i64 bn, .string sb, .slice c8 bl cp8] 29) = w9 := ⟨_, rfl⟩
  rw [hw9] at hb9 hg9
  have G9 := hide (row_keep (unhide G8) hb9)
  have H9 := hide hg9
  have B9 := hide ((unhide B8).trans (hb9.mono (unhide B8).size))
  have A9 := hide ((unhide A8).trans (hb9.mono (unhide A8).size))
  have RA9 := hide (unhide LA _ _ _ (unhide RA8) hb9)
  have RB9 := hide (unhide LB _ _ _ (unhide RB8) hb9)
  have P9 := hide (unhide OA _ _ _ _ (unhide P8) hb9)
  have T9 := hide (unhide OB _ _ _ _ (unhide T8) hb9)
  clear B8 A8 RA8 RB8 P8 T8
  have y0 := Lib.cell_of_heap (unhide G9) 0
  have y1 := Lib.cell_of_heap (unhide G9) 1
  have y2 := Lib.cell_of_heap (unhide G9) 2
  have y3 := Lib.cell_of_heap (unhide G9) 3
  have z0 := Lib.cell_of_heap (unhide H9) 0
  have z1 := Lib.cell_of_heap (unhide H9) 1
  have z2 := Lib.cell_of_heap (unhide H9) 2
  have z3 := Lib.cell_of_heap (unhide H9) 3
  clear hb9 hg9
  have I9 := hide (unhide SI2 w9 c6 cp6 c8 cp8 (unhide FA _ _ _ (unhide P9)) (unhide FB _ _ _ (unhide T9)))
  have KA9 := hide (unhide NA _ _ _ (unhide P9))
  have KB9 := hide (unhide NB _ _ _ (unhide T9))
  clear SI2 P9 T9 G8
  go_wp2_with fail
  refine (unhide I9).mono ?_
  rintro r w10 ⟨rfl, hb10⟩
  clear hw9
  have B10 := hide ((unhide B9).trans (hb10.mono (unhide B9).size))
  have A10 := hide ((unhide A9).trans (hb10.mono (unhide A9).size))
  have RA10 := hide (unhide LA _ _ _ (unhide RA9) hb10)
  have RB10 := hide (unhide LB _ _ _ (unhide RB9) hb10)
  have KA10 := hide (unhide LA _ _ _ (unhide KA9) hb10)
  have KB10 := hide (unhide LB _ _ _ (unhide KB9) hb10)
  clear B9 A9 RA9 RB9 KA9 KB9
  have G10 := hide (row_keep (unhide G9) hb10)
  have H10 := hide (row_keep (unhide H9) hb10)
  have D0 := hide (show (fun w' => w'.heap[w6.heap.size]? = some (.cells #[.int .i64 ak, .int .i64 an, .string sa, .slice c6 al cp6] 29 (0, 0)) ∧ w'.heap[w.heap.size]? = some (.cells #[.int .i64 ak, .int .i64 an, .string sa, .slice pa al ca] 24 (0, 0))) w10.drew from ⟨row_keep (unhide G10) below_drew, row_keep (unhide GA _ (unhide B10)) below_drew⟩)
  clear hb10 G9 H9 I9 y0 y1 y2 y3 z0 z1 z2 z3
  go_wp2_with fail
  refine wp_region_held_drew (S := fun w' => w'.heap[w6.heap.size]? = some (.cells #[.int .i64 ak, .int .i64 an, .string sa, .slice c6 al cp6] 29 (0, 0)) ∧ w'.heap[w.heap.size]? = some (.cells #[.int .i64 ak, .int .i64 an, .string sa, .slice pa al ca] 24 (0, 0))) (by kernel_rfl) (unhide D0) (fun hS => ?_)
  have HS := hide hS
  clear hS
  refine wpAnyH_take (i := 0) (v := .agg #[.int .i64 ak, .int .i64 an, .string sa, .slice c6 al cp6]) rfl (by kernel_rfl) (by kernel_rfl) (by kernel_rfl) (fun _ _ _ h => h) (yields_loadG (by rfl) 29 _ rfl w6.heap.size rfl 29 #[.int .i64 ak, .int .i64 an, .string sa, .slice c6 al cp6] _ (fun w h => h.1) Try.underlying29 rfl (by kernel_rfl)) (unhide HS) ?_
  go_simp
  refine wpAnyH_take (i := 1) (v := .agg #[.int .i64 ak, .int .i64 an, .string sa, .slice pa al ca]) rfl (by kernel_rfl) (by kernel_rfl) (by kernel_rfl) (fun _ _ _ h => h) (yields_loadG (by rfl) 24 _ rfl w.heap.size rfl 24 #[.int .i64 ak, .int .i64 an, .string sa, .slice pa al ca] _ (fun w h => h.2) Try.underlying24 rfl (by kernel_rfl)) (unhide HS) ?_
  go_simp
  refine wpAnyH_ready (rs := [2]) (by kernel_rfl) (by simp) ?_
  refine AllReadyH.cons rfl (fun K2 hK => ?_) AllReadyH.nil
  go_simp
  refine (unhide TA2 _ (unhide LA _ _ _ (unhide RA10) below_drew)).mono ?_
  rintro r w11 ⟨c11, cp11, rfl, n11, hb11⟩
  refine hK.out _ _ (⟨row_keep (unhide D0).1 hb11, row_keep (unhide D0).2 hb11⟩) (fun hS => ?_)
  clear HS
  have HS := hide hS
  clear hS hK K2
  have hb11' : Below w10.heap.size w10 w11 := (below_drew (w := w10)).trans (hb11.mono (below_drew (w := w10)).size)
  have D1 := hide (unhide HS)
  have G11 := hide (row_keep (unhide G10) hb11')
  have H11 := hide (row_keep (unhide H10) hb11')
  have B11 := hide ((unhide B10).trans (hb11'.mono (unhide B10).size))
  have A11 := hide ((unhide A10).trans (hb11'.mono (unhide A10).size))
  have RA11 := hide (unhide LA _ _ _ (unhide RA10) hb11')
  have RB11 := hide (unhide LB _ _ _ (unhide RB10) hb11')
  have KA11 := hide (unhide LA _ _ _ (unhide KA10) hb11')
  have KB11 := hide (unhide LB _ _ _ (unhide KB10) hb11')
  clear B10 A10 RA10 RB10 KA10 KB10
  have E11 := hide (unhide EA2 w11 c6 c11 cp6 cp11 (unhide KA11) (unhide NA _ _ _ n11))
  clear hb11 hb11' n11 D0 G10 H10
  refine wpAnyH_ready (rs := [3]) (by kernel_rfl) (by simp) ?_
  refine AllReadyH.cons rfl (fun K2 hK => ?_) AllReadyH.nil
  go_simp
  refine (unhide E11).mono ?_
  rintro r w12 ⟨rfl, hb12⟩
  refine hK.out _ _ (⟨row_keep (unhide D1).1 hb12, row_keep (unhide D1).2 hb12⟩) (fun hS => ?_)
  clear HS
  have HS := hide hS
  clear hS hK K2
  have G12 := hide (row_keep (unhide G11) hb12)
  have H12 := hide (row_keep (unhide H11) hb12)
  have B12 := hide ((unhide B11).trans (hb12.mono (unhide B11).size))
  have A12 := hide ((unhide A11).trans (hb12.mono (unhide A11).size))
  have RA12 := hide (unhide LA _ _ _ (unhide RA11) hb12)
  have RB12 := hide (unhide LB _ _ _ (unhide RB11) hb12)
  have KA12 := hide (unhide LA _ _ _ (unhide KA11) hb12)
  have KB12 := hide (unhide LB _ _ _ (unhide KB11) hb12)
  clear B11 A11 RA11 RB11 KA11 KB11
  clear hb12 D1 E11 G11 H11
  refine wpAnyH_take (i := 4) (v := .bool false) rfl (by kernel_rfl) (by kernel_rfl) (by kernel_rfl) (fun _ _ _ h => h) (Or.inl ⟨by rfl, fun w hc => ?_⟩) (unhide HS) ?_
  · clear hc; go_simp
  go_simp
  refine wpAnyH_done (by kernel_rfl) ?_ _
  have D0 := hide (show (fun w' => w'.heap[w8.heap.size]? = some (.cells #[.int .i64 bk, .int .i64 bn, .string sb, .slice c8 bl cp8] 29 (0, 0)) ∧ w'.heap[w.heap.size + 1]? = some (.cells #[.int .i64 bk, .int .i64 bn, .string sb, .slice pb bl cb] 24 (0, 0))) w12.drew from ⟨row_keep (unhide H12) below_drew, row_keep (unhide GB _ (unhide B12)) below_drew⟩)
  go_wp2_with fail
  refine wp_region_held_drew (S := fun w' => w'.heap[w8.heap.size]? = some (.cells #[.int .i64 bk, .int .i64 bn, .string sb, .slice c8 bl cp8] 29 (0, 0)) ∧ w'.heap[w.heap.size + 1]? = some (.cells #[.int .i64 bk, .int .i64 bn, .string sb, .slice pb bl cb] 24 (0, 0))) (by kernel_rfl) (unhide D0) (fun hS => ?_)
  have HS := hide hS
  clear hS
  refine wpAnyH_take (i := 0) (v := .agg #[.int .i64 bk, .int .i64 bn, .string sb, .slice c8 bl cp8]) rfl (by kernel_rfl) (by kernel_rfl) (by kernel_rfl) (fun _ _ _ h => h) (yields_loadG (by rfl) 29 _ rfl w8.heap.size rfl 29 #[.int .i64 bk, .int .i64 bn, .string sb, .slice c8 bl cp8] _ (fun w h => h.1) Try.underlying29 rfl (by kernel_rfl)) (unhide HS) ?_
  go_simp
  refine wpAnyH_take (i := 1) (v := .agg #[.int .i64 bk, .int .i64 bn, .string sb, .slice pb bl cb]) rfl (by kernel_rfl) (by kernel_rfl) (by kernel_rfl) (fun _ _ _ h => h) (yields_loadG (by rfl) 24 _ rfl (w.heap.size + 1) rfl 24 #[.int .i64 bk, .int .i64 bn, .string sb, .slice pb bl cb] _ (fun w h => h.2) Try.underlying24 rfl (by kernel_rfl)) (unhide HS) ?_
  go_simp
  refine wpAnyH_ready (rs := [2]) (by kernel_rfl) (by simp) ?_
  refine AllReadyH.cons rfl (fun K2 hK => ?_) AllReadyH.nil
  go_simp
  refine (unhide TB2 _ (unhide LB _ _ _ (unhide RB12) below_drew)).mono ?_
  rintro r w13 ⟨c13, cp13, rfl, n13, hb13⟩
  refine hK.out _ _ (⟨row_keep (unhide D0).1 hb13, row_keep (unhide D0).2 hb13⟩) (fun hS => ?_)
  clear HS
  have HS := hide hS
  clear hS hK K2
  have hb13' : Below w12.heap.size w12 w13 := (below_drew (w := w12)).trans (hb13.mono (below_drew (w := w12)).size)
  have D1 := hide (unhide HS)
  have G13 := hide (row_keep (unhide G12) hb13')
  have H13 := hide (row_keep (unhide H12) hb13')
  have B13 := hide ((unhide B12).trans (hb13'.mono (unhide B12).size))
  have A13 := hide ((unhide A12).trans (hb13'.mono (unhide A12).size))
  have RA13 := hide (unhide LA _ _ _ (unhide RA12) hb13')
  have RB13 := hide (unhide LB _ _ _ (unhide RB12) hb13')
  have KA13 := hide (unhide LA _ _ _ (unhide KA12) hb13')
  have KB13 := hide (unhide LB _ _ _ (unhide KB12) hb13')
  clear B12 A12 RA12 RB12 KA12 KB12
  have E13 := hide (unhide EB2 w13 c8 c13 cp8 cp13 (unhide KB13) (unhide NB _ _ _ n13))
  clear hb13 hb13' n13 D0 G12 H12
  refine wpAnyH_ready (rs := [3]) (by kernel_rfl) (by simp) ?_
  refine AllReadyH.cons rfl (fun K2 hK => ?_) AllReadyH.nil
  go_simp
  refine (unhide E13).mono ?_
  rintro r w14 ⟨rfl, hb14⟩
  refine hK.out _ _ (⟨row_keep (unhide D1).1 hb14, row_keep (unhide D1).2 hb14⟩) (fun hS => ?_)
  clear HS
  have HS := hide hS
  clear hS hK K2
  have G14 := hide (row_keep (unhide G13) hb14)
  have H14 := hide (row_keep (unhide H13) hb14)
  have B14 := hide ((unhide B13).trans (hb14.mono (unhide B13).size))
  have A14 := hide ((unhide A13).trans (hb14.mono (unhide A13).size))
  have RA14 := hide (unhide LA _ _ _ (unhide RA13) hb14)
  have RB14 := hide (unhide LB _ _ _ (unhide RB13) hb14)
  have KA14 := hide (unhide LA _ _ _ (unhide KA13) hb14)
  have KB14 := hide (unhide LB _ _ _ (unhide KB13) hb14)
  clear B13 A13 RA13 RB13 KA13 KB13
  clear hb14 D1 E13 G13 H13
  refine wpAnyH_take (i := 4) (v := .bool false) rfl (by kernel_rfl) (by kernel_rfl) (by kernel_rfl) (fun _ _ _ h => h) (Or.inl ⟨by rfl, fun w hc => ?_⟩) (unhide HS) ?_
  · clear hc; go_simp
  go_simp
  refine wpAnyH_done (by kernel_rfl) ?_ _
  go_wp2
  go_ret
  exact ⟨rfl, unhide A14⟩

set_option maxRecDepth 100000 in
theorem lifted (os : Os) (started : os.Started) (H : Type) (enc : TypeId × Value → H) :
    ReturnsInHanded {} Try.checked os 3 .any (Rows.fnExactSameExprSpec.pre6 enc Try.prog Try.f3 Rows.fnExactSameExprRow.domain false) (Rows.fnExactSameExprSpec.post enc Try.prog Try.f3 false true false false) := by
  refine returnsInHanded_of_change (C := Try.checked) own started (by kernel_rfl) Try.func3
    (ChangeSpec.witness6 (enc := enc) (C := Try.checked) false ⟨#[], #[.agg #[.int .i64 0, .int .i64 0, .string ByteArray.empty, .slice none 0 0], .agg #[.int .i64 0, .int .i64 0, .string ByteArray.empty, .slice none 0 0]], []⟩ 8 (by kernel_rfl) (by kernel_rfl) (by kernel_rfl) (by kernel_rfl)) ?_
  intro W base args ds gs before hval0 hW hcnd _
  have hval : ∀ (j : Nat) t v, Try.f3.params[j]? = some t → args[j]? = some v → Value.okWide Try.prog W .any base t v := hval0
  have hW' := hW
  obtain ⟨p, q, hA0, hV, rfl, hfz, hnd⟩ := hW
  have hA : DataW.TrodAll enc Try.prog W 0 (fun _ => true) true Try.f3.params.toList args.toList ds p := hA0
  rw [Try.params3] at hA hval
  obtain ⟨v0, vs0, d0, ds0, p0, q0, hargs, rfl, rfl, h0, r0⟩ := trodAll_cons hA
  obtain ⟨v1, vs1, d1, ds1, p1, q1, rfl, rfl, rfl, h1, r1⟩ := trodAll_cons r0
  obtain ⟨rfl, rfl, rfl⟩ := trodAll_nil r1
  obtain rfl : args = #[v0, v1] := by cases args; simp_all
  obtain ⟨rfl, rfl⟩ := trodVars_none hV
  have k0 := h0
  have lt0 : ∀ x ∈ p0, x.block < W.heap.size := by obtain ⟨m, hm⟩ := k0; exact DataW.trod_lt m _ _ _ hm
  obtain ⟨o0, b0, c0, rfl, g0, f0⟩ := open_ex (hval 0 24 v0 rfl rfl) h0
  have k1 := h1
  have lt1 : ∀ x ∈ p1, x.block < W.heap.size := by obtain ⟨m, hm⟩ := k1; exact DataW.trod_lt m _ _ _ hm
  obtain ⟨o1, b1, c1, rfl, g1, f1⟩ := open_ex (hval 1 24 v1 rfl rfl) h1
  clear hA0 hval0
  refine (walk o0 b0 c0 o1 b1 c1 W g0 f0 g1 f1).mono fun e W' ⟨he, bel⟩ => ?_
  subst he
  exact ⟨_, rfl, _, _, _, [], _, [], hW', trodAll_mk1 (shut_bool Try.underlying4 _), (trodAll_cons_mk (Below.trod laidOut (by kernel_rfl) (of_decide_eq_true (by kernel_rfl)) k0 bel lt0) (trodAll_cons_mk (Below.trod laidOut (by kernel_rfl) (of_decide_eq_true (by kernel_rfl)) k1 bel lt1) trodAll_mk0)), rfl, bel.frame _, fun h => by cases h⟩

theorem over : Rows.fnExactSameExprRow.holds Try.pinned (OpenSpec.ofChange Rows.fnExactSameExprSpec) :=
  OpenClaim.holds_of_wide 3 Try.f3 rfl rfl rfl rfl rfl rfl rfl ⟨rfl, rfl, rfl, rfl, rfl⟩ rfl rfl rfl rfl rfl (by kernel_rfl) Try.func3 (by kernel_rfl)
    (of_decide_eq_true (by kernel_rfl)) (by unfold Func.isWrapper; first | (rw [if_pos (by decide +kernel)]; kernel_rfl) | (rw [if_neg (by decide +kernel)]; exact ⟨rfl, rfl⟩))
    (fun os started H enc _ => lifted os started H enc)

theorem proved : Rows.FnExactSameExprSaid := over
end Go.Proofs.Ythgbpofcfmnpdaa.fnExactSameExpr

namespace Go.Proofs.Ythgbpofcfmnpdaa
theorem fnExactSameExpr_holds : Rows.FnExactSameExprSaid := fnExactSameExpr.proved
#print axioms fnExactSameExpr_holds
end Go.Proofs.Ythgbpofcfmnpdaa
