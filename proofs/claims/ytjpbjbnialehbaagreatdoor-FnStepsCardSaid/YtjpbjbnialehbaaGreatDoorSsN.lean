/- Contracts over this seat's translation, laid together; conditions stand as hypotheses of each. -/
import Derived.Test.YtjpbjbnialehbaaGreatDoorSsM
namespace Go.Proofs.YtjpbjbnialehbaaGreatDoor
open Go.ChangeShapes Go.WideShapes Go.ChangeAt Go.RowKit
set_option maxHeartbeats 16000000
set_option linter.unusedVariables false
set_option maxRecDepth 8000
set_option linter.unusedSimpArgs false
theorem row2S_0 {w : World} {g : Nat} {a b : Int} {t : TypeId} (h : w.heap[g]? = some (.cells #[.int .i64 a, .int .i64 b] t (0, 0))) : w.cell? ⟨g, 0, none⟩ = some (.int .i64 a) := (cell_of_row w g 0 _ t _ h).trans rfl
theorem row2S_1 {w : World} {g : Nat} {a b : Int} {t : TypeId} (h : w.heap[g]? = some (.cells #[.int .i64 a, .int .i64 b] t (0, 0))) : w.cell? ⟨g, 1, none⟩ = some (.int .i64 b) := (cell_of_row w g 1 _ t _ h).trans rfl
def Ms.st (t : Ms) (qr qa n : Int) : Ms := { t with d := t.d.stD qr qa n }
def Ms.cs (t : Ms) (b : Bool) : Ms := { t with c := b }
theorem Sm.setC {w : World} {B g : Nat} {y : Mv} {t : Ms} {st : Int} (h : Sm w B g y t st) (b : Bool) : Sm (w.setCell ⟨g, 5, none⟩ (.bool b)) B g { y with c := b } (t.cs b) st ∧ Fm w (w.setCell ⟨g, 5, none⟩ (.bool b)) g y { y with c := b } :=
 ⟨h.setF 5 (.bool b) { y with c := b } (t.cs b) st rfl rfl rfl rfl rfl rfl (by have := h.fl; unfold Mv.fl Ms.fl Ms.cs at *; simp at *; exact ⟨this.1, this.2.1, this.2.2.1, this.2.2.2.2⟩), Fm.grown (grownBy_set (b := g) (o := 5) (.bool b)) (.inl rfl) (fun k hk => hk)⟩
def Ms.two (t : Ms) (op : Nat) (s qr qa : Int) : Ms :=
 match op with
 | 1 => (t.nz s false).st qr qa s
 | 2 => (t.nz ((s - t.d.ldV qr qa) % 65536) ((sgB s != sgB (t.d.ldV qr qa)) && (sgB ((s - t.d.ldV qr qa) % 65536) == sgB (t.d.ldV qr qa)))).cs (decide (s < t.d.ldV qr qa))
 | 3 => (t.nz (bits .andNot .i64 (t.d.ldV qr qa) s) false).st qr qa (bits .andNot .i64 (t.d.ldV qr qa) s)
 | 4 => (t.nz (bits .or .i64 (t.d.ldV qr qa) s) false).st qr qa (bits .or .i64 (t.d.ldV qr qa) s)
 | 5 => ((t.nz ((t.d.ldV qr qa + s) % 65536) ((sgB s == sgB (t.d.ldV qr qa)) && (sgB ((t.d.ldV qr qa + s) % 65536) != sgB (t.d.ldV qr qa)))).cs (decide (65535 < t.d.ldV qr qa + s))).st qr qa ((t.d.ldV qr qa + s) % 65536)
 | _ => ((t.nz ((t.d.ldV qr qa - s) % 65536) ((sgB s != sgB (t.d.ldV qr qa)) && (sgB ((t.d.ldV qr qa - s) % 65536) == sgB s))).cs (decide (t.d.ldV qr qa < s))).st qr qa ((t.d.ldV qr qa - s) % 65536)
def TwIs (B g : Nat) (y : Mv) (t t2 : Ms) (st op s qr qa : Int) (ok : Bool) (w : World) : Prop :=
 Calls Tryz.prog 91 #[.pointer (some ⟨g, 0, none⟩), .int .i64 op, .int .i64 s, .agg #[.int .i64 qr, .int .i64 qa]] w fun e w' => e = .returned (.bool ok) ∧ ∃ y', (ok = true → Sm w' B g y' t2 st) ∧ Fm w w' g y y'
theorem two_1 (B g : Nat) (y : Mv) (t : Ms) (st s qr qa : Int) (w : World) (h : Sm w B g y t st) (hk : Dk t.d) (hs : 0 ≤ s ∧ s ≤ 65535) : TwIs B g y t (t.two 1 s qr qa) st 1 s qr qa (t.d.ldB qr qa) w := by
 obtain ⟨s0, s1⟩ := hs
 have GL := hide (show g < w.heap.size from row_lt h.row)
 have YL := hide (fun b (hb : y.at b) => (h.own.lo hb).2)
 have H0 := hide (h.later (below_new w (Obj.cells #[.int .i64 qr, .int .i64 qa] 97)))
 have R0 := hide (heap_alloc_last w (Obj.cells #[.int .i64 qr, .int .i64 qa] 97))
 have DK := hide hk
 unfold TwIs Ms.two
 have NZ := hide (nz_any B g y t st s false (w.alloc (Obj.cells #[.int .i64 qr, .int .i64 qa] 97)) (uh H0))
 clear h hk
 go_enter Tryz.func91, Tryz.ntmps91
 go_wp2_with fail
 refine (uh NZ).mono ?_
 rintro e w1 ⟨rfl, h1, f1⟩
 have R1 := hide (f1.row (uh R0) (by have := uh GL; omega) (fun e => by have := uh YL _ e; omega))
 have F1 := hide ((Fm.of (below_new w (Obj.cells #[.int .i64 qr, .int .i64 qa] 97))).trans f1)
 have P := hide (put7_any B g _ (t.nz s false) st qr qa s w1 h1 (uh DK))
 clear h1 f1 NZ
 go_wp2_with (refine wpList_load_row rfl 97 _ rfl w.heap.size rfl 97 #[.int .i64 qr, .int .i64 qa] (0, 0) _ (uh R1) Tryz.underlying97 rfl (by kernel_rfl) ?_)
 refine (uh P).mono ?_
 rintro e w2 ⟨rfl, y2, h2, f2⟩
 have H2 := hide h2
 have F2 := hide ((uh F1).trans f2)
 clear h2 f2 P
 go_wp2
 go_ret
 exact ⟨rfl, y2, fun _ => uh H2, uh F2⟩
theorem two_2n (B g : Nat) (y : Mv) (t : Ms) (st s qr qa : Int) (w : World) (h : Sm w B g y t st) (hk : Dk t.d) (hs : 0 ≤ s ∧ s ≤ 65535) (hq : t.d.ldB qr qa = false) : TwIs B g y t (t) st 2 s qr qa false w := by
 obtain ⟨s0, s1⟩ := hs
 have GL := hide (show g < w.heap.size from row_lt h.row)
 have YL := hide (fun b (hb : y.at b) => (h.own.lo hb).2)
 have H0 := hide ((h.later (below_new w (Obj.cells #[.int .i64 qr, .int .i64 qa] 97))).later (below_drew (w := (w.alloc (Obj.cells #[.int .i64 qr, .int .i64 qa] 97)))))
 have R0 := hide (row_lat (heap_alloc_last w (Obj.cells #[.int .i64 qr, .int .i64 qa] 97)) (below_drew (w := (w.alloc (Obj.cells #[.int .i64 qr, .int .i64 qa] 97)))))
 have BB := hide ((below_new w (Obj.cells #[.int .i64 qr, .int .i64 qa] 97)).trans ((below_drew (w := (w.alloc (Obj.cells #[.int .i64 qr, .int .i64 qa] 97)))).mono (by simp)))
 have LD := hide (fun v (r : RdM v y t.d) => loadS_any y t.d qr qa v (h.small hk) r)
 rw [hq] at LD
 have DB := hk.ldb qr qa
 have DK := hide hk
 unfold TwIs
 generalize t.d.ldV qr qa = D at LD DB ⊢
 clear h hk hq
 obtain ⟨d0, d1⟩ := DB
 go_enter Tryz.func91, Tryz.ntmps91
 go_wp2_with fail
 refine wp_region_held_drew (S := fun v => v.heap[g]? = some (.cells y.cs 26 (0, 0)) ∧ v.heap[w.heap.size]? = some (.cells #[.int .i64 qr, .int .i64 qa] 97 (0, 0))) (by kernel_rfl) ⟨(uh H0).row, uh R0⟩ (fun hS => ?_)
 have HS := hide hS
 clear hS
 generalize (w.alloc (Obj.cells #[.int .i64 qr, .int .i64 qa] 97)).drew = wd at H0 R0 BB HS ⊢
 refine tkB 0 (.pointer (some ⟨g, 0, none⟩)) rfl (uh HS) ?_
 go_simp
 refine tkB 1 (.pointer (some ⟨g, 0, none⟩)) rfl (uh HS) ?_
 go_simp
 refine tkA 2 (.agg y.cs) rfl (yields_load rfl 26 _ rfl g rfl 26 y.cs _ (fun w h => h.1) Tryz.underlying26 rfl (by kernel_rfl)) (uh HS) ?_
 go_simp
 refine tkA 3 (.agg #[.int .i64 qr, .int .i64 qa]) rfl (yields_load rfl 97 _ rfl w.heap.size rfl 97 #[.int .i64 qr, .int .i64 qa] _ (fun w h => h.2) Tryz.underlying97 rfl (by kernel_rfl)) (uh HS) ?_
 go_simp
 refine wpAnyH_ready (rs := [4]) (by kernel_rfl) (by simp) ?_
 refine AllReadyH.cons rfl (fun K2 hK => ?_) (AllReadyH.nil)
 go_simp
 have P := hide (uh LD wd (uh H0).own.rd)
 refine (uh P).mono ?_
 rintro e w2 ⟨rfl, hb⟩
 have H2 := hide ((uh H0).later hb)
 have WD := hide (show w.heap.size < wd.heap.size from row_lt (uh R0))
 have B2 := hide ((uh BB).trans (hb.mono (by have := uh WD; omega)))
 have R2 := hide (row_lat (uh R0) hb)
 refine hK.out _ _ ⟨(uh H2).row, uh R2⟩ (fun hS => ?_)
 clear HS
 have HS := hide hS
 clear hS hK K2 hb P LD H0 R0 BB
 refine tkB 5 (.tuple #[.int .i64 D, .bool false]) rfl (uh HS) ?_
 go_simp
 refine tkB 6 (.int .i64 D) rfl (uh HS) ?_
 go_simp
 refine tkB 7 (.bool false) rfl (uh HS) ?_
 go_simp
 refine tkB 8 (.int .i64 D) rfl (uh HS) ?_
 go_simp
 refine tkB 9 (.bool false) rfl (uh HS) ?_
 go_simp
 refine wpAnyH_done (by kernel_rfl) ?_ _
 clear HS
 go_wp2_with fail
 go_ret
 exact ⟨rfl, y, fun h => Bool.noConfusion h, Fm.of (uh B2)⟩
theorem two_3n (B g : Nat) (y : Mv) (t : Ms) (st s qr qa : Int) (w : World) (h : Sm w B g y t st) (hk : Dk t.d) (hs : 0 ≤ s ∧ s ≤ 65535) (hq : t.d.ldB qr qa = false) : TwIs B g y t (t) st 3 s qr qa false w := by
 obtain ⟨s0, s1⟩ := hs
 have GL := hide (show g < w.heap.size from row_lt h.row)
 have YL := hide (fun b (hb : y.at b) => (h.own.lo hb).2)
 have H0 := hide ((h.later (below_new w (Obj.cells #[.int .i64 qr, .int .i64 qa] 97))).later (below_drew (w := (w.alloc (Obj.cells #[.int .i64 qr, .int .i64 qa] 97)))))
 have R0 := hide (row_lat (heap_alloc_last w (Obj.cells #[.int .i64 qr, .int .i64 qa] 97)) (below_drew (w := (w.alloc (Obj.cells #[.int .i64 qr, .int .i64 qa] 97)))))
 have BB := hide ((below_new w (Obj.cells #[.int .i64 qr, .int .i64 qa] 97)).trans ((below_drew (w := (w.alloc (Obj.cells #[.int .i64 qr, .int .i64 qa] 97)))).mono (by simp)))
 have LD := hide (fun v (r : RdM v y t.d) => loadS_any y t.d qr qa v (h.small hk) r)
 rw [hq] at LD
 have DB := hk.ldb qr qa
 have DK := hide hk
 unfold TwIs
 generalize t.d.ldV qr qa = D at LD DB ⊢
 clear h hk hq
 obtain ⟨d0, d1⟩ := DB
 go_enter Tryz.func91, Tryz.ntmps91
 go_wp2_with fail
 refine wp_region_held_drew (S := fun v => v.heap[g]? = some (.cells y.cs 26 (0, 0)) ∧ v.heap[w.heap.size]? = some (.cells #[.int .i64 qr, .int .i64 qa] 97 (0, 0))) (by kernel_rfl) ⟨(uh H0).row, uh R0⟩ (fun hS => ?_)
 have HS := hide hS
 clear hS
 generalize (w.alloc (Obj.cells #[.int .i64 qr, .int .i64 qa] 97)).drew = wd at H0 R0 BB HS ⊢
 refine tkB 0 (.pointer (some ⟨g, 0, none⟩)) rfl (uh HS) ?_
 go_simp
 refine tkB 1 (.pointer (some ⟨g, 0, none⟩)) rfl (uh HS) ?_
 go_simp
 refine tkA 2 (.agg y.cs) rfl (yields_load rfl 26 _ rfl g rfl 26 y.cs _ (fun w h => h.1) Tryz.underlying26 rfl (by kernel_rfl)) (uh HS) ?_
 go_simp
 refine tkA 3 (.agg #[.int .i64 qr, .int .i64 qa]) rfl (yields_load rfl 97 _ rfl w.heap.size rfl 97 #[.int .i64 qr, .int .i64 qa] _ (fun w h => h.2) Tryz.underlying97 rfl (by kernel_rfl)) (uh HS) ?_
 go_simp
 refine wpAnyH_ready (rs := [4]) (by kernel_rfl) (by simp) ?_
 refine AllReadyH.cons rfl (fun K2 hK => ?_) (AllReadyH.nil)
 go_simp
 have P := hide (uh LD wd (uh H0).own.rd)
 refine (uh P).mono ?_
 rintro e w2 ⟨rfl, hb⟩
 have H2 := hide ((uh H0).later hb)
 have WD := hide (show w.heap.size < wd.heap.size from row_lt (uh R0))
 have B2 := hide ((uh BB).trans (hb.mono (by have := uh WD; omega)))
 have R2 := hide (row_lat (uh R0) hb)
 refine hK.out _ _ ⟨(uh H2).row, uh R2⟩ (fun hS => ?_)
 clear HS
 have HS := hide hS
 clear hS hK K2 hb P LD H0 R0 BB
 refine tkB 5 (.tuple #[.int .i64 D, .bool false]) rfl (uh HS) ?_
 go_simp
 refine tkB 6 (.int .i64 D) rfl (uh HS) ?_
 go_simp
 refine tkB 7 (.bool false) rfl (uh HS) ?_
 go_simp
 refine tkB 8 (.int .i64 D) rfl (uh HS) ?_
 go_simp
 refine tkB 9 (.bool false) rfl (uh HS) ?_
 go_simp
 refine wpAnyH_done (by kernel_rfl) ?_ _
 clear HS
 go_wp2_with fail
 go_ret
 exact ⟨rfl, y, fun h => Bool.noConfusion h, Fm.of (uh B2)⟩
theorem two_4n (B g : Nat) (y : Mv) (t : Ms) (st s qr qa : Int) (w : World) (h : Sm w B g y t st) (hk : Dk t.d) (hs : 0 ≤ s ∧ s ≤ 65535) (hq : t.d.ldB qr qa = false) : TwIs B g y t (t) st 4 s qr qa false w := by
 obtain ⟨s0, s1⟩ := hs
 have GL := hide (show g < w.heap.size from row_lt h.row)
 have YL := hide (fun b (hb : y.at b) => (h.own.lo hb).2)
 have H0 := hide ((h.later (below_new w (Obj.cells #[.int .i64 qr, .int .i64 qa] 97))).later (below_drew (w := (w.alloc (Obj.cells #[.int .i64 qr, .int .i64 qa] 97)))))
 have R0 := hide (row_lat (heap_alloc_last w (Obj.cells #[.int .i64 qr, .int .i64 qa] 97)) (below_drew (w := (w.alloc (Obj.cells #[.int .i64 qr, .int .i64 qa] 97)))))
 have BB := hide ((below_new w (Obj.cells #[.int .i64 qr, .int .i64 qa] 97)).trans ((below_drew (w := (w.alloc (Obj.cells #[.int .i64 qr, .int .i64 qa] 97)))).mono (by simp)))
 have LD := hide (fun v (r : RdM v y t.d) => loadS_any y t.d qr qa v (h.small hk) r)
 rw [hq] at LD
 have DB := hk.ldb qr qa
 have DK := hide hk
 unfold TwIs
 generalize t.d.ldV qr qa = D at LD DB ⊢
 clear h hk hq
 obtain ⟨d0, d1⟩ := DB
 go_enter Tryz.func91, Tryz.ntmps91
 go_wp2_with fail
 refine wp_region_held_drew (S := fun v => v.heap[g]? = some (.cells y.cs 26 (0, 0)) ∧ v.heap[w.heap.size]? = some (.cells #[.int .i64 qr, .int .i64 qa] 97 (0, 0))) (by kernel_rfl) ⟨(uh H0).row, uh R0⟩ (fun hS => ?_)
 have HS := hide hS
 clear hS
 generalize (w.alloc (Obj.cells #[.int .i64 qr, .int .i64 qa] 97)).drew = wd at H0 R0 BB HS ⊢
 refine tkB 0 (.pointer (some ⟨g, 0, none⟩)) rfl (uh HS) ?_
 go_simp
 refine tkB 1 (.pointer (some ⟨g, 0, none⟩)) rfl (uh HS) ?_
 go_simp
 refine tkA 2 (.agg y.cs) rfl (yields_load rfl 26 _ rfl g rfl 26 y.cs _ (fun w h => h.1) Tryz.underlying26 rfl (by kernel_rfl)) (uh HS) ?_
 go_simp
 refine tkA 3 (.agg #[.int .i64 qr, .int .i64 qa]) rfl (yields_load rfl 97 _ rfl w.heap.size rfl 97 #[.int .i64 qr, .int .i64 qa] _ (fun w h => h.2) Tryz.underlying97 rfl (by kernel_rfl)) (uh HS) ?_
 go_simp
 refine wpAnyH_ready (rs := [4]) (by kernel_rfl) (by simp) ?_
 refine AllReadyH.cons rfl (fun K2 hK => ?_) (AllReadyH.nil)
 go_simp
 have P := hide (uh LD wd (uh H0).own.rd)
 refine (uh P).mono ?_
 rintro e w2 ⟨rfl, hb⟩
 have H2 := hide ((uh H0).later hb)
 have WD := hide (show w.heap.size < wd.heap.size from row_lt (uh R0))
 have B2 := hide ((uh BB).trans (hb.mono (by have := uh WD; omega)))
 have R2 := hide (row_lat (uh R0) hb)
 refine hK.out _ _ ⟨(uh H2).row, uh R2⟩ (fun hS => ?_)
 clear HS
 have HS := hide hS
 clear hS hK K2 hb P LD H0 R0 BB
 refine tkB 5 (.tuple #[.int .i64 D, .bool false]) rfl (uh HS) ?_
 go_simp
 refine tkB 6 (.int .i64 D) rfl (uh HS) ?_
 go_simp
 refine tkB 7 (.bool false) rfl (uh HS) ?_
 go_simp
 refine tkB 8 (.int .i64 D) rfl (uh HS) ?_
 go_simp
 refine tkB 9 (.bool false) rfl (uh HS) ?_
 go_simp
 refine wpAnyH_done (by kernel_rfl) ?_ _
 clear HS
 go_wp2_with fail
 go_ret
 exact ⟨rfl, y, fun h => Bool.noConfusion h, Fm.of (uh B2)⟩
theorem two_5n (B g : Nat) (y : Mv) (t : Ms) (st s qr qa : Int) (w : World) (h : Sm w B g y t st) (hk : Dk t.d) (hs : 0 ≤ s ∧ s ≤ 65535) (hq : t.d.ldB qr qa = false) : TwIs B g y t (t) st 5 s qr qa false w := by
 obtain ⟨s0, s1⟩ := hs
 have GL := hide (show g < w.heap.size from row_lt h.row)
 have YL := hide (fun b (hb : y.at b) => (h.own.lo hb).2)
 have H0 := hide ((h.later (below_new w (Obj.cells #[.int .i64 qr, .int .i64 qa] 97))).later (below_drew (w := (w.alloc (Obj.cells #[.int .i64 qr, .int .i64 qa] 97)))))
 have R0 := hide (row_lat (heap_alloc_last w (Obj.cells #[.int .i64 qr, .int .i64 qa] 97)) (below_drew (w := (w.alloc (Obj.cells #[.int .i64 qr, .int .i64 qa] 97)))))
 have BB := hide ((below_new w (Obj.cells #[.int .i64 qr, .int .i64 qa] 97)).trans ((below_drew (w := (w.alloc (Obj.cells #[.int .i64 qr, .int .i64 qa] 97)))).mono (by simp)))
 have LD := hide (fun v (r : RdM v y t.d) => loadS_any y t.d qr qa v (h.small hk) r)
 rw [hq] at LD
 have DB := hk.ldb qr qa
 have DK := hide hk
 unfold TwIs
 generalize t.d.ldV qr qa = D at LD DB ⊢
 clear h hk hq
 obtain ⟨d0, d1⟩ := DB
 go_enter Tryz.func91, Tryz.ntmps91
 go_wp2_with fail
 refine wp_region_held_drew (S := fun v => v.heap[g]? = some (.cells y.cs 26 (0, 0)) ∧ v.heap[w.heap.size]? = some (.cells #[.int .i64 qr, .int .i64 qa] 97 (0, 0))) (by kernel_rfl) ⟨(uh H0).row, uh R0⟩ (fun hS => ?_)
 have HS := hide hS
 clear hS
 generalize (w.alloc (Obj.cells #[.int .i64 qr, .int .i64 qa] 97)).drew = wd at H0 R0 BB HS ⊢
 refine tkB 0 (.pointer (some ⟨g, 0, none⟩)) rfl (uh HS) ?_
 go_simp
 refine tkB 1 (.pointer (some ⟨g, 0, none⟩)) rfl (uh HS) ?_
 go_simp
 refine tkA 2 (.agg y.cs) rfl (yields_load rfl 26 _ rfl g rfl 26 y.cs _ (fun w h => h.1) Tryz.underlying26 rfl (by kernel_rfl)) (uh HS) ?_
 go_simp
 refine tkA 3 (.agg #[.int .i64 qr, .int .i64 qa]) rfl (yields_load rfl 97 _ rfl w.heap.size rfl 97 #[.int .i64 qr, .int .i64 qa] _ (fun w h => h.2) Tryz.underlying97 rfl (by kernel_rfl)) (uh HS) ?_
 go_simp
 refine wpAnyH_ready (rs := [4]) (by kernel_rfl) (by simp) ?_
 refine AllReadyH.cons rfl (fun K2 hK => ?_) (AllReadyH.nil)
 go_simp
 have P := hide (uh LD wd (uh H0).own.rd)
 refine (uh P).mono ?_
 rintro e w2 ⟨rfl, hb⟩
 have H2 := hide ((uh H0).later hb)
 have WD := hide (show w.heap.size < wd.heap.size from row_lt (uh R0))
 have B2 := hide ((uh BB).trans (hb.mono (by have := uh WD; omega)))
 have R2 := hide (row_lat (uh R0) hb)
 refine hK.out _ _ ⟨(uh H2).row, uh R2⟩ (fun hS => ?_)
 clear HS
 have HS := hide hS
 clear hS hK K2 hb P LD H0 R0 BB
 refine tkB 5 (.tuple #[.int .i64 D, .bool false]) rfl (uh HS) ?_
 go_simp
 refine tkB 6 (.int .i64 D) rfl (uh HS) ?_
 go_simp
 refine tkB 7 (.bool false) rfl (uh HS) ?_
 go_simp
 refine tkB 8 (.int .i64 D) rfl (uh HS) ?_
 go_simp
 refine tkB 9 (.bool false) rfl (uh HS) ?_
 go_simp
 refine wpAnyH_done (by kernel_rfl) ?_ _
 clear HS
 go_wp2_with fail
 go_ret
 exact ⟨rfl, y, fun h => Bool.noConfusion h, Fm.of (uh B2)⟩
theorem two_6n (B g : Nat) (y : Mv) (t : Ms) (st s qr qa : Int) (w : World) (h : Sm w B g y t st) (hk : Dk t.d) (hs : 0 ≤ s ∧ s ≤ 65535) (hq : t.d.ldB qr qa = false) : TwIs B g y t (t) st 6 s qr qa false w := by
 obtain ⟨s0, s1⟩ := hs
 have GL := hide (show g < w.heap.size from row_lt h.row)
 have YL := hide (fun b (hb : y.at b) => (h.own.lo hb).2)
 have H0 := hide ((h.later (below_new w (Obj.cells #[.int .i64 qr, .int .i64 qa] 97))).later (below_drew (w := (w.alloc (Obj.cells #[.int .i64 qr, .int .i64 qa] 97)))))
 have R0 := hide (row_lat (heap_alloc_last w (Obj.cells #[.int .i64 qr, .int .i64 qa] 97)) (below_drew (w := (w.alloc (Obj.cells #[.int .i64 qr, .int .i64 qa] 97)))))
 have BB := hide ((below_new w (Obj.cells #[.int .i64 qr, .int .i64 qa] 97)).trans ((below_drew (w := (w.alloc (Obj.cells #[.int .i64 qr, .int .i64 qa] 97)))).mono (by simp)))
 have LD := hide (fun v (r : RdM v y t.d) => loadS_any y t.d qr qa v (h.small hk) r)
 rw [hq] at LD
 have DB := hk.ldb qr qa
 have DK := hide hk
 unfold TwIs
 generalize t.d.ldV qr qa = D at LD DB ⊢
 clear h hk hq
 obtain ⟨d0, d1⟩ := DB
 go_enter Tryz.func91, Tryz.ntmps91
 go_wp2_with fail
 refine wp_region_held_drew (S := fun v => v.heap[g]? = some (.cells y.cs 26 (0, 0)) ∧ v.heap[w.heap.size]? = some (.cells #[.int .i64 qr, .int .i64 qa] 97 (0, 0))) (by kernel_rfl) ⟨(uh H0).row, uh R0⟩ (fun hS => ?_)
 have HS := hide hS
 clear hS
 generalize (w.alloc (Obj.cells #[.int .i64 qr, .int .i64 qa] 97)).drew = wd at H0 R0 BB HS ⊢
 refine tkB 0 (.pointer (some ⟨g, 0, none⟩)) rfl (uh HS) ?_
 go_simp
 refine tkB 1 (.pointer (some ⟨g, 0, none⟩)) rfl (uh HS) ?_
 go_simp
 refine tkA 2 (.agg y.cs) rfl (yields_load rfl 26 _ rfl g rfl 26 y.cs _ (fun w h => h.1) Tryz.underlying26 rfl (by kernel_rfl)) (uh HS) ?_
 go_simp
 refine tkA 3 (.agg #[.int .i64 qr, .int .i64 qa]) rfl (yields_load rfl 97 _ rfl w.heap.size rfl 97 #[.int .i64 qr, .int .i64 qa] _ (fun w h => h.2) Tryz.underlying97 rfl (by kernel_rfl)) (uh HS) ?_
 go_simp
 refine wpAnyH_ready (rs := [4]) (by kernel_rfl) (by simp) ?_
 refine AllReadyH.cons rfl (fun K2 hK => ?_) (AllReadyH.nil)
 go_simp
 have P := hide (uh LD wd (uh H0).own.rd)
 refine (uh P).mono ?_
 rintro e w2 ⟨rfl, hb⟩
 have H2 := hide ((uh H0).later hb)
 have WD := hide (show w.heap.size < wd.heap.size from row_lt (uh R0))
 have B2 := hide ((uh BB).trans (hb.mono (by have := uh WD; omega)))
 have R2 := hide (row_lat (uh R0) hb)
 refine hK.out _ _ ⟨(uh H2).row, uh R2⟩ (fun hS => ?_)
 clear HS
 have HS := hide hS
 clear hS hK K2 hb P LD H0 R0 BB
 refine tkB 5 (.tuple #[.int .i64 D, .bool false]) rfl (uh HS) ?_
 go_simp
 refine tkB 6 (.int .i64 D) rfl (uh HS) ?_
 go_simp
 refine tkB 7 (.bool false) rfl (uh HS) ?_
 go_simp
 refine tkB 8 (.int .i64 D) rfl (uh HS) ?_
 go_simp
 refine tkB 9 (.bool false) rfl (uh HS) ?_
 go_simp
 refine wpAnyH_done (by kernel_rfl) ?_ _
 clear HS
 go_wp2_with fail
 go_ret
 exact ⟨rfl, y, fun h => Bool.noConfusion h, Fm.of (uh B2)⟩
theorem two_2 (B g : Nat) (y : Mv) (t : Ms) (st s qr qa : Int) (w : World) (h : Sm w B g y t st) (hk : Dk t.d) (hs : 0 ≤ s ∧ s ≤ 65535) (hq : t.d.ldB qr qa = true) : TwIs B g y t (t.two 2 s qr qa) st 2 s qr qa true w := by
 have HQ := hide hq
 obtain ⟨s0, s1⟩ := hs
 have GL := hide (show g < w.heap.size from row_lt h.row)
 have YL := hide (fun b (hb : y.at b) => (h.own.lo hb).2)
 have H0 := hide ((h.later (below_new w (Obj.cells #[.int .i64 qr, .int .i64 qa] 97))).later (below_drew (w := (w.alloc (Obj.cells #[.int .i64 qr, .int .i64 qa] 97)))))
 have R0 := hide (row_lat (heap_alloc_last w (Obj.cells #[.int .i64 qr, .int .i64 qa] 97)) (below_drew (w := (w.alloc (Obj.cells #[.int .i64 qr, .int .i64 qa] 97)))))
 have BB := hide ((below_new w (Obj.cells #[.int .i64 qr, .int .i64 qa] 97)).trans ((below_drew (w := (w.alloc (Obj.cells #[.int .i64 qr, .int .i64 qa] 97)))).mono (by simp)))
 have LD := hide (fun v (r : RdM v y t.d) => loadS_any y t.d qr qa v (h.small hk) r)
 rw [hq] at LD
 have DB := hk.ldb qr qa
 have DK := hide hk
 unfold TwIs Ms.two
 generalize t.d.ldV qr qa = D at LD DB ⊢
 clear h hk hq
 obtain ⟨d0, d1⟩ := DB
 have WR := hide (fun v => wrapS_any (s - D) v)
 generalize (s - D) % 65536 = r at WR ⊢
 have SG1 := hide (fun v => sign_any s v)
 generalize sgB s = b1 at SG1 ⊢
 have SG2 := hide (fun v => sign_any D v)
 generalize sgB D = b2 at SG2 ⊢
 have SG3 := hide (fun v => sign_any r v)
 generalize sgB r = b3 at SG3 ⊢
 go_enter Tryz.func91, Tryz.ntmps91
 go_wp2_with fail
 refine wp_region_held_drew (S := fun v => v.heap[g]? = some (.cells y.cs 26 (0, 0)) ∧ v.heap[w.heap.size]? = some (.cells #[.int .i64 qr, .int .i64 qa] 97 (0, 0))) (by kernel_rfl) ⟨(uh H0).row, uh R0⟩ (fun hS => ?_)
 have HS := hide hS
 clear hS
 generalize (w.alloc (Obj.cells #[.int .i64 qr, .int .i64 qa] 97)).drew = wd at H0 R0 BB HS ⊢
 refine tkB 0 (.pointer (some ⟨g, 0, none⟩)) rfl (uh HS) ?_
 go_simp
 refine tkB 1 (.pointer (some ⟨g, 0, none⟩)) rfl (uh HS) ?_
 go_simp
 refine tkA 2 (.agg y.cs) rfl (yields_load rfl 26 _ rfl g rfl 26 y.cs _ (fun w h => h.1) Tryz.underlying26 rfl (by kernel_rfl)) (uh HS) ?_
 go_simp
 refine tkA 3 (.agg #[.int .i64 qr, .int .i64 qa]) rfl (yields_load rfl 97 _ rfl w.heap.size rfl 97 #[.int .i64 qr, .int .i64 qa] _ (fun w h => h.2) Tryz.underlying97 rfl (by kernel_rfl)) (uh HS) ?_
 go_simp
 refine wpAnyH_ready (rs := [4]) (by kernel_rfl) (by simp) ?_
 refine AllReadyH.cons rfl (fun K2 hK => ?_) (AllReadyH.nil)
 go_simp
 have P := hide (uh LD wd (uh H0).own.rd)
 refine (uh P).mono ?_
 rintro e w2 ⟨rfl, hb⟩
 have H2 := hide ((uh H0).later hb)
 have WD := hide (show w.heap.size < wd.heap.size from row_lt (uh R0))
 have B2 := hide ((uh BB).trans (hb.mono (by have := uh WD; omega)))
 have R2 := hide (row_lat (uh R0) hb)
 refine hK.out _ _ ⟨(uh H2).row, uh R2⟩ (fun hS => ?_)
 clear HS
 have HS := hide hS
 clear hS hK K2 hb P LD H0 R0 BB
 refine tkB 5 (.tuple #[.int .i64 D, .bool true]) rfl (uh HS) ?_
 go_simp
 refine tkB 6 (.int .i64 D) rfl (uh HS) ?_
 go_simp
 refine tkB 7 (.bool true) rfl (uh HS) ?_
 go_simp
 refine tkB 8 (.int .i64 D) rfl (uh HS) ?_
 go_simp
 refine tkB 9 (.bool true) rfl (uh HS) ?_
 go_simp
 refine wpAnyH_done (by kernel_rfl) ?_ _
 clear HS
 go_wp2_with fail
 refine (uh WR _).mono ?_
 rintro e w9 ⟨rfl, hw9⟩
 rw [hw9]
 clear hw9 w9
 go_wp2_with fail
 refine (uh SG1 _).mono ?_
 rintro e w9 ⟨rfl, hw9⟩
 rw [hw9]
 clear hw9 w9
 go_wp2_with fail
 refine (uh SG2 _).mono ?_
 rintro e w9 ⟨rfl, hw9⟩
 rw [hw9]
 clear hw9 w9
 cases b1 <;> cases b2
 ·
  skip
  have NZ := hide (nz_any B g y t st r (((false : Bool) != (false : Bool)) && ((b3 : Bool) == (false : Bool))) w2 (uh H2))
  go_wp2_with fail
  refine (uh NZ).mono ?_
  rintro e w3 ⟨rfl, h3, f3⟩
  have H3 := hide h3
  have F3 := hide ((Fm.of (uh B2)).trans f3)
  have R3 := hide (f3.row (uh R2) (by have := uh GL; omega) (fun e => by have := uh YL _ e; omega))
  clear h3 f3 NZ H2 B2 R2
  have c5 := row_c (uh H3).row
  have f5 := row_fz (uh H3).row 5
  obtain ⟨h4, f4⟩ := (uh H3).setC (decide (s < D))
  have H4 := hide h4
  have F4 := hide ((uh F3).trans f4)
  have R4 := hide (f4.row (uh R3) (by have := uh GL; omega) (fun e => by have := uh YL _ e; omega))
  clear h4 f4
  go_wp2
  go_ret
  exact ⟨rfl, _, fun _ => uh H4, uh F4⟩
 ·
  skip
  go_wp2_with fail
  refine (uh SG3 _).mono ?_
  rintro e w9 ⟨rfl, hw9⟩
  rw [hw9]
  clear hw9 w9
  go_wp2_with fail
  refine (uh SG2 _).mono ?_
  rintro e w9 ⟨rfl, hw9⟩
  rw [hw9]
  clear hw9 w9
  cases b3
  ·
   skip
   have NZ := hide (nz_any B g y t st r (((false : Bool) != (true : Bool)) && ((false : Bool) == (true : Bool))) w2 (uh H2))
   go_wp2_with fail
   refine (uh NZ).mono ?_
   rintro e w3 ⟨rfl, h3, f3⟩
   have H3 := hide h3
   have F3 := hide ((Fm.of (uh B2)).trans f3)
   have R3 := hide (f3.row (uh R2) (by have := uh GL; omega) (fun e => by have := uh YL _ e; omega))
   clear h3 f3 NZ H2 B2 R2
   have c5 := row_c (uh H3).row
   have f5 := row_fz (uh H3).row 5
   obtain ⟨h4, f4⟩ := (uh H3).setC (decide (s < D))
   have H4 := hide h4
   have F4 := hide ((uh F3).trans f4)
   have R4 := hide (f4.row (uh R3) (by have := uh GL; omega) (fun e => by have := uh YL _ e; omega))
   clear h4 f4
   go_wp2
   go_ret
   exact ⟨rfl, _, fun _ => uh H4, uh F4⟩
  ·
   skip
   have NZ := hide (nz_any B g y t st r (((false : Bool) != (true : Bool)) && ((true : Bool) == (true : Bool))) w2 (uh H2))
   go_wp2_with fail
   refine (uh NZ).mono ?_
   rintro e w3 ⟨rfl, h3, f3⟩
   have H3 := hide h3
   have F3 := hide ((Fm.of (uh B2)).trans f3)
   have R3 := hide (f3.row (uh R2) (by have := uh GL; omega) (fun e => by have := uh YL _ e; omega))
   clear h3 f3 NZ H2 B2 R2
   have c5 := row_c (uh H3).row
   have f5 := row_fz (uh H3).row 5
   obtain ⟨h4, f4⟩ := (uh H3).setC (decide (s < D))
   have H4 := hide h4
   have F4 := hide ((uh F3).trans f4)
   have R4 := hide (f4.row (uh R3) (by have := uh GL; omega) (fun e => by have := uh YL _ e; omega))
   clear h4 f4
   go_wp2
   go_ret
   exact ⟨rfl, _, fun _ => uh H4, uh F4⟩
 ·
  skip
  go_wp2_with fail
  refine (uh SG3 _).mono ?_
  rintro e w9 ⟨rfl, hw9⟩
  rw [hw9]
  clear hw9 w9
  go_wp2_with fail
  refine (uh SG2 _).mono ?_
  rintro e w9 ⟨rfl, hw9⟩
  rw [hw9]
  clear hw9 w9
  cases b3
  ·
   skip
   have NZ := hide (nz_any B g y t st r (((true : Bool) != (false : Bool)) && ((false : Bool) == (false : Bool))) w2 (uh H2))
   go_wp2_with fail
   refine (uh NZ).mono ?_
   rintro e w3 ⟨rfl, h3, f3⟩
   have H3 := hide h3
   have F3 := hide ((Fm.of (uh B2)).trans f3)
   have R3 := hide (f3.row (uh R2) (by have := uh GL; omega) (fun e => by have := uh YL _ e; omega))
   clear h3 f3 NZ H2 B2 R2
   have c5 := row_c (uh H3).row
   have f5 := row_fz (uh H3).row 5
   obtain ⟨h4, f4⟩ := (uh H3).setC (decide (s < D))
   have H4 := hide h4
   have F4 := hide ((uh F3).trans f4)
   have R4 := hide (f4.row (uh R3) (by have := uh GL; omega) (fun e => by have := uh YL _ e; omega))
   clear h4 f4
   go_wp2
   go_ret
   exact ⟨rfl, _, fun _ => uh H4, uh F4⟩
  ·
   skip
   have NZ := hide (nz_any B g y t st r (((true : Bool) != (false : Bool)) && ((true : Bool) == (false : Bool))) w2 (uh H2))
   go_wp2_with fail
   refine (uh NZ).mono ?_
   rintro e w3 ⟨rfl, h3, f3⟩
   have H3 := hide h3
   have F3 := hide ((Fm.of (uh B2)).trans f3)
   have R3 := hide (f3.row (uh R2) (by have := uh GL; omega) (fun e => by have := uh YL _ e; omega))
   clear h3 f3 NZ H2 B2 R2
   have c5 := row_c (uh H3).row
   have f5 := row_fz (uh H3).row 5
   obtain ⟨h4, f4⟩ := (uh H3).setC (decide (s < D))
   have H4 := hide h4
   have F4 := hide ((uh F3).trans f4)
   have R4 := hide (f4.row (uh R3) (by have := uh GL; omega) (fun e => by have := uh YL _ e; omega))
   clear h4 f4
   go_wp2
   go_ret
   exact ⟨rfl, _, fun _ => uh H4, uh F4⟩
 ·
  skip
  have NZ := hide (nz_any B g y t st r (((true : Bool) != (true : Bool)) && ((b3 : Bool) == (true : Bool))) w2 (uh H2))
  go_wp2_with fail
  refine (uh NZ).mono ?_
  rintro e w3 ⟨rfl, h3, f3⟩
  have H3 := hide h3
  have F3 := hide ((Fm.of (uh B2)).trans f3)
  have R3 := hide (f3.row (uh R2) (by have := uh GL; omega) (fun e => by have := uh YL _ e; omega))
  clear h3 f3 NZ H2 B2 R2
  have c5 := row_c (uh H3).row
  have f5 := row_fz (uh H3).row 5
  obtain ⟨h4, f4⟩ := (uh H3).setC (decide (s < D))
  have H4 := hide h4
  have F4 := hide ((uh F3).trans f4)
  have R4 := hide (f4.row (uh R3) (by have := uh GL; omega) (fun e => by have := uh YL _ e; omega))
  clear h4 f4
  go_wp2
  go_ret
  exact ⟨rfl, _, fun _ => uh H4, uh F4⟩
theorem two_3 (B g : Nat) (y : Mv) (t : Ms) (st s qr qa : Int) (w : World) (h : Sm w B g y t st) (hk : Dk t.d) (hs : 0 ≤ s ∧ s ≤ 65535) (hq : t.d.ldB qr qa = true) : TwIs B g y t (t.two 3 s qr qa) st 3 s qr qa true w := by
 have HQ := hide hq
 obtain ⟨s0, s1⟩ := hs
 have GL := hide (show g < w.heap.size from row_lt h.row)
 have YL := hide (fun b (hb : y.at b) => (h.own.lo hb).2)
 have H0 := hide ((h.later (below_new w (Obj.cells #[.int .i64 qr, .int .i64 qa] 97))).later (below_drew (w := (w.alloc (Obj.cells #[.int .i64 qr, .int .i64 qa] 97)))))
 have R0 := hide (row_lat (heap_alloc_last w (Obj.cells #[.int .i64 qr, .int .i64 qa] 97)) (below_drew (w := (w.alloc (Obj.cells #[.int .i64 qr, .int .i64 qa] 97)))))
 have BB := hide ((below_new w (Obj.cells #[.int .i64 qr, .int .i64 qa] 97)).trans ((below_drew (w := (w.alloc (Obj.cells #[.int .i64 qr, .int .i64 qa] 97)))).mono (by simp)))
 have LD := hide (fun v (r : RdM v y t.d) => loadS_any y t.d qr qa v (h.small hk) r)
 rw [hq] at LD
 have DB := hk.ldb qr qa
 have DK := hide hk
 unfold TwIs Ms.two
 generalize t.d.ldV qr qa = D at LD DB ⊢
 clear h hk hq
 obtain ⟨d0, d1⟩ := DB
 obtain ⟨X, hX⟩ : ∃ q, bits .andNot .i64 D s = q := ⟨_, rfl⟩
 rw [hX]
 have HX := hX
 clear hX
 go_enter Tryz.func91, Tryz.ntmps91
 go_wp2_with fail
 refine wp_region_held_drew (S := fun v => v.heap[g]? = some (.cells y.cs 26 (0, 0)) ∧ v.heap[w.heap.size]? = some (.cells #[.int .i64 qr, .int .i64 qa] 97 (0, 0))) (by kernel_rfl) ⟨(uh H0).row, uh R0⟩ (fun hS => ?_)
 have HS := hide hS
 clear hS
 generalize (w.alloc (Obj.cells #[.int .i64 qr, .int .i64 qa] 97)).drew = wd at H0 R0 BB HS ⊢
 refine tkB 0 (.pointer (some ⟨g, 0, none⟩)) rfl (uh HS) ?_
 go_simp
 refine tkB 1 (.pointer (some ⟨g, 0, none⟩)) rfl (uh HS) ?_
 go_simp
 refine tkA 2 (.agg y.cs) rfl (yields_load rfl 26 _ rfl g rfl 26 y.cs _ (fun w h => h.1) Tryz.underlying26 rfl (by kernel_rfl)) (uh HS) ?_
 go_simp
 refine tkA 3 (.agg #[.int .i64 qr, .int .i64 qa]) rfl (yields_load rfl 97 _ rfl w.heap.size rfl 97 #[.int .i64 qr, .int .i64 qa] _ (fun w h => h.2) Tryz.underlying97 rfl (by kernel_rfl)) (uh HS) ?_
 go_simp
 refine wpAnyH_ready (rs := [4]) (by kernel_rfl) (by simp) ?_
 refine AllReadyH.cons rfl (fun K2 hK => ?_) (AllReadyH.nil)
 go_simp
 have P := hide (uh LD wd (uh H0).own.rd)
 refine (uh P).mono ?_
 rintro e w2 ⟨rfl, hb⟩
 have H2 := hide ((uh H0).later hb)
 have WD := hide (show w.heap.size < wd.heap.size from row_lt (uh R0))
 have B2 := hide ((uh BB).trans (hb.mono (by have := uh WD; omega)))
 have R2 := hide (row_lat (uh R0) hb)
 refine hK.out _ _ ⟨(uh H2).row, uh R2⟩ (fun hS => ?_)
 clear HS
 have HS := hide hS
 clear hS hK K2 hb P LD H0 R0 BB
 refine tkB 5 (.tuple #[.int .i64 D, .bool true]) rfl (uh HS) ?_
 go_simp
 refine tkB 6 (.int .i64 D) rfl (uh HS) ?_
 go_simp
 refine tkB 7 (.bool true) rfl (uh HS) ?_
 go_simp
 refine tkB 8 (.int .i64 D) rfl (uh HS) ?_
 go_simp
 refine tkB 9 (.bool true) rfl (uh HS) ?_
 go_simp
 refine wpAnyH_done (by kernel_rfl) ?_ _
 clear HS
 have NZ := hide (nz_any B g y t st X false w2 (uh H2))
 go_wp2_with fail
 refine (uh NZ).mono ?_
 rintro e w3 ⟨rfl, h3, f3⟩
 have H3 := hide h3
 have F3 := hide ((Fm.of (uh B2)).trans f3)
 have R3 := hide (f3.row (uh R2) (by have := uh GL; omega) (fun e => by have := uh YL _ e; omega))
 clear h3 f3 NZ H2 B2 R2
 have P := hide (put7_any B g _ (t.nz X false) st qr qa X _ (uh H3) (uh DK))
 rw [show (t.nz X false).d.ldB qr qa = true from uh HQ] at P
 go_wp2_with (refine wpList_load_row rfl 97 _ rfl w.heap.size rfl 97 #[.int .i64 qr, .int .i64 qa] (0, 0) _ (uh R3) Tryz.underlying97 rfl (by kernel_rfl) ?_)
 refine (uh P).mono ?_
 rintro e w7 ⟨rfl, y7, h7, f7⟩
 have H7 := hide h7
 have F7 := hide ((uh F3).trans f7)
 clear h7 f7 P
 go_wp2
 go_ret
 exact ⟨rfl, y7, fun _ => uh H7, uh F7⟩
theorem two_4 (B g : Nat) (y : Mv) (t : Ms) (st s qr qa : Int) (w : World) (h : Sm w B g y t st) (hk : Dk t.d) (hs : 0 ≤ s ∧ s ≤ 65535) (hq : t.d.ldB qr qa = true) : TwIs B g y t (t.two 4 s qr qa) st 4 s qr qa true w := by
 have HQ := hide hq
 obtain ⟨s0, s1⟩ := hs
 have GL := hide (show g < w.heap.size from row_lt h.row)
 have YL := hide (fun b (hb : y.at b) => (h.own.lo hb).2)
 have H0 := hide ((h.later (below_new w (Obj.cells #[.int .i64 qr, .int .i64 qa] 97))).later (below_drew (w := (w.alloc (Obj.cells #[.int .i64 qr, .int .i64 qa] 97)))))
 have R0 := hide (row_lat (heap_alloc_last w (Obj.cells #[.int .i64 qr, .int .i64 qa] 97)) (below_drew (w := (w.alloc (Obj.cells #[.int .i64 qr, .int .i64 qa] 97)))))
 have BB := hide ((below_new w (Obj.cells #[.int .i64 qr, .int .i64 qa] 97)).trans ((below_drew (w := (w.alloc (Obj.cells #[.int .i64 qr, .int .i64 qa] 97)))).mono (by simp)))
 have LD := hide (fun v (r : RdM v y t.d) => loadS_any y t.d qr qa v (h.small hk) r)
 rw [hq] at LD
 have DB := hk.ldb qr qa
 have DK := hide hk
 unfold TwIs Ms.two
 generalize t.d.ldV qr qa = D at LD DB ⊢
 clear h hk hq
 obtain ⟨d0, d1⟩ := DB
 obtain ⟨X, hX⟩ : ∃ q, bits .or .i64 D s = q := ⟨_, rfl⟩
 rw [hX]
 have HX := hX
 clear hX
 go_enter Tryz.func91, Tryz.ntmps91
 go_wp2_with fail
 refine wp_region_held_drew (S := fun v => v.heap[g]? = some (.cells y.cs 26 (0, 0)) ∧ v.heap[w.heap.size]? = some (.cells #[.int .i64 qr, .int .i64 qa] 97 (0, 0))) (by kernel_rfl) ⟨(uh H0).row, uh R0⟩ (fun hS => ?_)
 have HS := hide hS
 clear hS
 generalize (w.alloc (Obj.cells #[.int .i64 qr, .int .i64 qa] 97)).drew = wd at H0 R0 BB HS ⊢
 refine tkB 0 (.pointer (some ⟨g, 0, none⟩)) rfl (uh HS) ?_
 go_simp
 refine tkB 1 (.pointer (some ⟨g, 0, none⟩)) rfl (uh HS) ?_
 go_simp
 refine tkA 2 (.agg y.cs) rfl (yields_load rfl 26 _ rfl g rfl 26 y.cs _ (fun w h => h.1) Tryz.underlying26 rfl (by kernel_rfl)) (uh HS) ?_
 go_simp
 refine tkA 3 (.agg #[.int .i64 qr, .int .i64 qa]) rfl (yields_load rfl 97 _ rfl w.heap.size rfl 97 #[.int .i64 qr, .int .i64 qa] _ (fun w h => h.2) Tryz.underlying97 rfl (by kernel_rfl)) (uh HS) ?_
 go_simp
 refine wpAnyH_ready (rs := [4]) (by kernel_rfl) (by simp) ?_
 refine AllReadyH.cons rfl (fun K2 hK => ?_) (AllReadyH.nil)
 go_simp
 have P := hide (uh LD wd (uh H0).own.rd)
 refine (uh P).mono ?_
 rintro e w2 ⟨rfl, hb⟩
 have H2 := hide ((uh H0).later hb)
 have WD := hide (show w.heap.size < wd.heap.size from row_lt (uh R0))
 have B2 := hide ((uh BB).trans (hb.mono (by have := uh WD; omega)))
 have R2 := hide (row_lat (uh R0) hb)
 refine hK.out _ _ ⟨(uh H2).row, uh R2⟩ (fun hS => ?_)
 clear HS
 have HS := hide hS
 clear hS hK K2 hb P LD H0 R0 BB
 refine tkB 5 (.tuple #[.int .i64 D, .bool true]) rfl (uh HS) ?_
 go_simp
 refine tkB 6 (.int .i64 D) rfl (uh HS) ?_
 go_simp
 refine tkB 7 (.bool true) rfl (uh HS) ?_
 go_simp
 refine tkB 8 (.int .i64 D) rfl (uh HS) ?_
 go_simp
 refine tkB 9 (.bool true) rfl (uh HS) ?_
 go_simp
 refine wpAnyH_done (by kernel_rfl) ?_ _
 clear HS
 have NZ := hide (nz_any B g y t st X false w2 (uh H2))
 go_wp2_with fail
 refine (uh NZ).mono ?_
 rintro e w3 ⟨rfl, h3, f3⟩
 have H3 := hide h3
 have F3 := hide ((Fm.of (uh B2)).trans f3)
 have R3 := hide (f3.row (uh R2) (by have := uh GL; omega) (fun e => by have := uh YL _ e; omega))
 clear h3 f3 NZ H2 B2 R2
 have P := hide (put7_any B g _ (t.nz X false) st qr qa X _ (uh H3) (uh DK))
 rw [show (t.nz X false).d.ldB qr qa = true from uh HQ] at P
 go_wp2_with (refine wpList_load_row rfl 97 _ rfl w.heap.size rfl 97 #[.int .i64 qr, .int .i64 qa] (0, 0) _ (uh R3) Tryz.underlying97 rfl (by kernel_rfl) ?_)
 refine (uh P).mono ?_
 rintro e w7 ⟨rfl, y7, h7, f7⟩
 have H7 := hide h7
 have F7 := hide ((uh F3).trans f7)
 clear h7 f7 P
 go_wp2
 go_ret
 exact ⟨rfl, y7, fun _ => uh H7, uh F7⟩
theorem two_5 (B g : Nat) (y : Mv) (t : Ms) (st s qr qa : Int) (w : World) (h : Sm w B g y t st) (hk : Dk t.d) (hs : 0 ≤ s ∧ s ≤ 65535) (hq : t.d.ldB qr qa = true) : TwIs B g y t (t.two 5 s qr qa) st 5 s qr qa true w := by
 have HQ := hide hq
 obtain ⟨s0, s1⟩ := hs
 have GL := hide (show g < w.heap.size from row_lt h.row)
 have YL := hide (fun b (hb : y.at b) => (h.own.lo hb).2)
 have H0 := hide ((h.later (below_new w (Obj.cells #[.int .i64 qr, .int .i64 qa] 97))).later (below_drew (w := (w.alloc (Obj.cells #[.int .i64 qr, .int .i64 qa] 97)))))
 have R0 := hide (row_lat (heap_alloc_last w (Obj.cells #[.int .i64 qr, .int .i64 qa] 97)) (below_drew (w := (w.alloc (Obj.cells #[.int .i64 qr, .int .i64 qa] 97)))))
 have BB := hide ((below_new w (Obj.cells #[.int .i64 qr, .int .i64 qa] 97)).trans ((below_drew (w := (w.alloc (Obj.cells #[.int .i64 qr, .int .i64 qa] 97)))).mono (by simp)))
 have LD := hide (fun v (r : RdM v y t.d) => loadS_any y t.d qr qa v (h.small hk) r)
 rw [hq] at LD
 have DB := hk.ldb qr qa
 have DK := hide hk
 unfold TwIs Ms.two
 generalize t.d.ldV qr qa = D at LD DB ⊢
 clear h hk hq
 obtain ⟨d0, d1⟩ := DB
 have WR := hide (fun v => wrapS_any (D + s) v)
 generalize (D + s) % 65536 = r at WR ⊢
 have SG1 := hide (fun v => sign_any s v)
 generalize sgB s = b1 at SG1 ⊢
 have SG2 := hide (fun v => sign_any D v)
 generalize sgB D = b2 at SG2 ⊢
 have SG3 := hide (fun v => sign_any r v)
 generalize sgB r = b3 at SG3 ⊢
 go_enter Tryz.func91, Tryz.ntmps91
 go_wp2_with fail
 refine wp_region_held_drew (S := fun v => v.heap[g]? = some (.cells y.cs 26 (0, 0)) ∧ v.heap[w.heap.size]? = some (.cells #[.int .i64 qr, .int .i64 qa] 97 (0, 0))) (by kernel_rfl) ⟨(uh H0).row, uh R0⟩ (fun hS => ?_)
 have HS := hide hS
 clear hS
 generalize (w.alloc (Obj.cells #[.int .i64 qr, .int .i64 qa] 97)).drew = wd at H0 R0 BB HS ⊢
 refine tkB 0 (.pointer (some ⟨g, 0, none⟩)) rfl (uh HS) ?_
 go_simp
 refine tkB 1 (.pointer (some ⟨g, 0, none⟩)) rfl (uh HS) ?_
 go_simp
 refine tkA 2 (.agg y.cs) rfl (yields_load rfl 26 _ rfl g rfl 26 y.cs _ (fun w h => h.1) Tryz.underlying26 rfl (by kernel_rfl)) (uh HS) ?_
 go_simp
 refine tkA 3 (.agg #[.int .i64 qr, .int .i64 qa]) rfl (yields_load rfl 97 _ rfl w.heap.size rfl 97 #[.int .i64 qr, .int .i64 qa] _ (fun w h => h.2) Tryz.underlying97 rfl (by kernel_rfl)) (uh HS) ?_
 go_simp
 refine wpAnyH_ready (rs := [4]) (by kernel_rfl) (by simp) ?_
 refine AllReadyH.cons rfl (fun K2 hK => ?_) (AllReadyH.nil)
 go_simp
 have P := hide (uh LD wd (uh H0).own.rd)
 refine (uh P).mono ?_
 rintro e w2 ⟨rfl, hb⟩
 have H2 := hide ((uh H0).later hb)
 have WD := hide (show w.heap.size < wd.heap.size from row_lt (uh R0))
 have B2 := hide ((uh BB).trans (hb.mono (by have := uh WD; omega)))
 have R2 := hide (row_lat (uh R0) hb)
 refine hK.out _ _ ⟨(uh H2).row, uh R2⟩ (fun hS => ?_)
 clear HS
 have HS := hide hS
 clear hS hK K2 hb P LD H0 R0 BB
 refine tkB 5 (.tuple #[.int .i64 D, .bool true]) rfl (uh HS) ?_
 go_simp
 refine tkB 6 (.int .i64 D) rfl (uh HS) ?_
 go_simp
 refine tkB 7 (.bool true) rfl (uh HS) ?_
 go_simp
 refine tkB 8 (.int .i64 D) rfl (uh HS) ?_
 go_simp
 refine tkB 9 (.bool true) rfl (uh HS) ?_
 go_simp
 refine wpAnyH_done (by kernel_rfl) ?_ _
 clear HS
 go_wp2_with fail
 refine (uh WR _).mono ?_
 rintro e w9 ⟨rfl, hw9⟩
 rw [hw9]
 clear hw9 w9
 go_wp2_with fail
 refine (uh SG1 _).mono ?_
 rintro e w9 ⟨rfl, hw9⟩
 rw [hw9]
 clear hw9 w9
 go_wp2_with fail
 refine (uh SG2 _).mono ?_
 rintro e w9 ⟨rfl, hw9⟩
 rw [hw9]
 clear hw9 w9
 cases b1 <;> cases b2
 ·
  skip
  go_wp2_with fail
  refine (uh SG3 _).mono ?_
  rintro e w9 ⟨rfl, hw9⟩
  rw [hw9]
  clear hw9 w9
  go_wp2_with fail
  refine (uh SG2 _).mono ?_
  rintro e w9 ⟨rfl, hw9⟩
  rw [hw9]
  clear hw9 w9
  cases b3
  ·
   skip
   have NZ := hide (nz_any B g y t st r (((false : Bool) == (false : Bool)) && ((false : Bool) != (false : Bool))) w2 (uh H2))
   go_wp2_with fail
   refine (uh NZ).mono ?_
   rintro e w3 ⟨rfl, h3, f3⟩
   have H3 := hide h3
   have F3 := hide ((Fm.of (uh B2)).trans f3)
   have R3 := hide (f3.row (uh R2) (by have := uh GL; omega) (fun e => by have := uh YL _ e; omega))
   clear h3 f3 NZ H2 B2 R2
   have c5 := row_c (uh H3).row
   have f5 := row_fz (uh H3).row 5
   obtain ⟨h4, f4⟩ := (uh H3).setC (decide (65535 < D + s))
   have H4 := hide h4
   have F4 := hide ((uh F3).trans f4)
   have R4 := hide (f4.row (uh R3) (by have := uh GL; omega) (fun e => by have := uh YL _ e; omega))
   clear h4 f4
   have P := hide (put7_any B g _ ((t.nz r (((false : Bool) == (false : Bool)) && ((false : Bool) != (false : Bool)))).cs (decide (65535 < D + s))) st qr qa r _ (uh H4) (uh DK))
   rw [show ((t.nz r (((false : Bool) == (false : Bool)) && ((false : Bool) != (false : Bool)))).cs (decide (65535 < D + s))).d.ldB qr qa = true from uh HQ] at P
   go_wp2_with (refine wpList_load_row rfl 97 _ rfl w.heap.size rfl 97 #[.int .i64 qr, .int .i64 qa] (0, 0) _ (uh R4) Tryz.underlying97 rfl (by kernel_rfl) ?_)
   refine (uh P).mono ?_
   rintro e w7 ⟨rfl, y7, h7, f7⟩
   have H7 := hide h7
   have F7 := hide ((uh F4).trans f7)
   clear h7 f7 P
   go_wp2
   go_ret
   exact ⟨rfl, y7, fun _ => uh H7, uh F7⟩
  ·
   skip
   have NZ := hide (nz_any B g y t st r (((false : Bool) == (false : Bool)) && ((true : Bool) != (false : Bool))) w2 (uh H2))
   go_wp2_with fail
   refine (uh NZ).mono ?_
   rintro e w3 ⟨rfl, h3, f3⟩
   have H3 := hide h3
   have F3 := hide ((Fm.of (uh B2)).trans f3)
   have R3 := hide (f3.row (uh R2) (by have := uh GL; omega) (fun e => by have := uh YL _ e; omega))
   clear h3 f3 NZ H2 B2 R2
   have c5 := row_c (uh H3).row
   have f5 := row_fz (uh H3).row 5
   obtain ⟨h4, f4⟩ := (uh H3).setC (decide (65535 < D + s))
   have H4 := hide h4
   have F4 := hide ((uh F3).trans f4)
   have R4 := hide (f4.row (uh R3) (by have := uh GL; omega) (fun e => by have := uh YL _ e; omega))
   clear h4 f4
   have P := hide (put7_any B g _ ((t.nz r (((false : Bool) == (false : Bool)) && ((true : Bool) != (false : Bool)))).cs (decide (65535 < D + s))) st qr qa r _ (uh H4) (uh DK))
   rw [show ((t.nz r (((false : Bool) == (false : Bool)) && ((true : Bool) != (false : Bool)))).cs (decide (65535 < D + s))).d.ldB qr qa = true from uh HQ] at P
   go_wp2_with (refine wpList_load_row rfl 97 _ rfl w.heap.size rfl 97 #[.int .i64 qr, .int .i64 qa] (0, 0) _ (uh R4) Tryz.underlying97 rfl (by kernel_rfl) ?_)
   refine (uh P).mono ?_
   rintro e w7 ⟨rfl, y7, h7, f7⟩
   have H7 := hide h7
   have F7 := hide ((uh F4).trans f7)
   clear h7 f7 P
   go_wp2
   go_ret
   exact ⟨rfl, y7, fun _ => uh H7, uh F7⟩
 ·
  skip
  have NZ := hide (nz_any B g y t st r (((false : Bool) == (true : Bool)) && ((b3 : Bool) != (true : Bool))) w2 (uh H2))
  go_wp2_with fail
  refine (uh NZ).mono ?_
  rintro e w3 ⟨rfl, h3, f3⟩
  have H3 := hide h3
  have F3 := hide ((Fm.of (uh B2)).trans f3)
  have R3 := hide (f3.row (uh R2) (by have := uh GL; omega) (fun e => by have := uh YL _ e; omega))
  clear h3 f3 NZ H2 B2 R2
  have c5 := row_c (uh H3).row
  have f5 := row_fz (uh H3).row 5
  obtain ⟨h4, f4⟩ := (uh H3).setC (decide (65535 < D + s))
  have H4 := hide h4
  have F4 := hide ((uh F3).trans f4)
  have R4 := hide (f4.row (uh R3) (by have := uh GL; omega) (fun e => by have := uh YL _ e; omega))
  clear h4 f4
  have P := hide (put7_any B g _ ((t.nz r (((false : Bool) == (true : Bool)) && ((b3 : Bool) != (true : Bool)))).cs (decide (65535 < D + s))) st qr qa r _ (uh H4) (uh DK))
  rw [show ((t.nz r (((false : Bool) == (true : Bool)) && ((b3 : Bool) != (true : Bool)))).cs (decide (65535 < D + s))).d.ldB qr qa = true from uh HQ] at P
  go_wp2_with (refine wpList_load_row rfl 97 _ rfl w.heap.size rfl 97 #[.int .i64 qr, .int .i64 qa] (0, 0) _ (uh R4) Tryz.underlying97 rfl (by kernel_rfl) ?_)
  refine (uh P).mono ?_
  rintro e w7 ⟨rfl, y7, h7, f7⟩
  have H7 := hide h7
  have F7 := hide ((uh F4).trans f7)
  clear h7 f7 P
  go_wp2
  go_ret
  exact ⟨rfl, y7, fun _ => uh H7, uh F7⟩
 ·
  skip
  have NZ := hide (nz_any B g y t st r (((true : Bool) == (false : Bool)) && ((b3 : Bool) != (false : Bool))) w2 (uh H2))
  go_wp2_with fail
  refine (uh NZ).mono ?_
  rintro e w3 ⟨rfl, h3, f3⟩
  have H3 := hide h3
  have F3 := hide ((Fm.of (uh B2)).trans f3)
  have R3 := hide (f3.row (uh R2) (by have := uh GL; omega) (fun e => by have := uh YL _ e; omega))
  clear h3 f3 NZ H2 B2 R2
  have c5 := row_c (uh H3).row
  have f5 := row_fz (uh H3).row 5
  obtain ⟨h4, f4⟩ := (uh H3).setC (decide (65535 < D + s))
  have H4 := hide h4
  have F4 := hide ((uh F3).trans f4)
  have R4 := hide (f4.row (uh R3) (by have := uh GL; omega) (fun e => by have := uh YL _ e; omega))
  clear h4 f4
  have P := hide (put7_any B g _ ((t.nz r (((true : Bool) == (false : Bool)) && ((b3 : Bool) != (false : Bool)))).cs (decide (65535 < D + s))) st qr qa r _ (uh H4) (uh DK))
  rw [show ((t.nz r (((true : Bool) == (false : Bool)) && ((b3 : Bool) != (false : Bool)))).cs (decide (65535 < D + s))).d.ldB qr qa = true from uh HQ] at P
  go_wp2_with (refine wpList_load_row rfl 97 _ rfl w.heap.size rfl 97 #[.int .i64 qr, .int .i64 qa] (0, 0) _ (uh R4) Tryz.underlying97 rfl (by kernel_rfl) ?_)
  refine (uh P).mono ?_
  rintro e w7 ⟨rfl, y7, h7, f7⟩
  have H7 := hide h7
  have F7 := hide ((uh F4).trans f7)
  clear h7 f7 P
  go_wp2
  go_ret
  exact ⟨rfl, y7, fun _ => uh H7, uh F7⟩
 ·
  skip
  go_wp2_with fail
  refine (uh SG3 _).mono ?_
  rintro e w9 ⟨rfl, hw9⟩
  rw [hw9]
  clear hw9 w9
  go_wp2_with fail
  refine (uh SG2 _).mono ?_
  rintro e w9 ⟨rfl, hw9⟩
  rw [hw9]
  clear hw9 w9
  cases b3
  ·
   skip
   have NZ := hide (nz_any B g y t st r (((true : Bool) == (true : Bool)) && ((false : Bool) != (true : Bool))) w2 (uh H2))
   go_wp2_with fail
   refine (uh NZ).mono ?_
   rintro e w3 ⟨rfl, h3, f3⟩
   have H3 := hide h3
   have F3 := hide ((Fm.of (uh B2)).trans f3)
   have R3 := hide (f3.row (uh R2) (by have := uh GL; omega) (fun e => by have := uh YL _ e; omega))
   clear h3 f3 NZ H2 B2 R2
   have c5 := row_c (uh H3).row
   have f5 := row_fz (uh H3).row 5
   obtain ⟨h4, f4⟩ := (uh H3).setC (decide (65535 < D + s))
   have H4 := hide h4
   have F4 := hide ((uh F3).trans f4)
   have R4 := hide (f4.row (uh R3) (by have := uh GL; omega) (fun e => by have := uh YL _ e; omega))
   clear h4 f4
   have P := hide (put7_any B g _ ((t.nz r (((true : Bool) == (true : Bool)) && ((false : Bool) != (true : Bool)))).cs (decide (65535 < D + s))) st qr qa r _ (uh H4) (uh DK))
   rw [show ((t.nz r (((true : Bool) == (true : Bool)) && ((false : Bool) != (true : Bool)))).cs (decide (65535 < D + s))).d.ldB qr qa = true from uh HQ] at P
   go_wp2_with (refine wpList_load_row rfl 97 _ rfl w.heap.size rfl 97 #[.int .i64 qr, .int .i64 qa] (0, 0) _ (uh R4) Tryz.underlying97 rfl (by kernel_rfl) ?_)
   refine (uh P).mono ?_
   rintro e w7 ⟨rfl, y7, h7, f7⟩
   have H7 := hide h7
   have F7 := hide ((uh F4).trans f7)
   clear h7 f7 P
   go_wp2
   go_ret
   exact ⟨rfl, y7, fun _ => uh H7, uh F7⟩
  ·
   skip
   have NZ := hide (nz_any B g y t st r (((true : Bool) == (true : Bool)) && ((true : Bool) != (true : Bool))) w2 (uh H2))
   go_wp2_with fail
   refine (uh NZ).mono ?_
   rintro e w3 ⟨rfl, h3, f3⟩
   have H3 := hide h3
   have F3 := hide ((Fm.of (uh B2)).trans f3)
   have R3 := hide (f3.row (uh R2) (by have := uh GL; omega) (fun e => by have := uh YL _ e; omega))
   clear h3 f3 NZ H2 B2 R2
   have c5 := row_c (uh H3).row
   have f5 := row_fz (uh H3).row 5
   obtain ⟨h4, f4⟩ := (uh H3).setC (decide (65535 < D + s))
   have H4 := hide h4
   have F4 := hide ((uh F3).trans f4)
   have R4 := hide (f4.row (uh R3) (by have := uh GL; omega) (fun e => by have := uh YL _ e; omega))
   clear h4 f4
   have P := hide (put7_any B g _ ((t.nz r (((true : Bool) == (true : Bool)) && ((true : Bool) != (true : Bool)))).cs (decide (65535 < D + s))) st qr qa r _ (uh H4) (uh DK))
   rw [show ((t.nz r (((true : Bool) == (true : Bool)) && ((true : Bool) != (true : Bool)))).cs (decide (65535 < D + s))).d.ldB qr qa = true from uh HQ] at P
   go_wp2_with (refine wpList_load_row rfl 97 _ rfl w.heap.size rfl 97 #[.int .i64 qr, .int .i64 qa] (0, 0) _ (uh R4) Tryz.underlying97 rfl (by kernel_rfl) ?_)
   refine (uh P).mono ?_
   rintro e w7 ⟨rfl, y7, h7, f7⟩
   have H7 := hide h7
   have F7 := hide ((uh F4).trans f7)
   clear h7 f7 P
   go_wp2
   go_ret
   exact ⟨rfl, y7, fun _ => uh H7, uh F7⟩
theorem two_6 (B g : Nat) (y : Mv) (t : Ms) (st s qr qa : Int) (w : World) (h : Sm w B g y t st) (hk : Dk t.d) (hs : 0 ≤ s ∧ s ≤ 65535) (hq : t.d.ldB qr qa = true) : TwIs B g y t (t.two 6 s qr qa) st 6 s qr qa true w := by
 have HQ := hide hq
 obtain ⟨s0, s1⟩ := hs
 have GL := hide (show g < w.heap.size from row_lt h.row)
 have YL := hide (fun b (hb : y.at b) => (h.own.lo hb).2)
 have H0 := hide ((h.later (below_new w (Obj.cells #[.int .i64 qr, .int .i64 qa] 97))).later (below_drew (w := (w.alloc (Obj.cells #[.int .i64 qr, .int .i64 qa] 97)))))
 have R0 := hide (row_lat (heap_alloc_last w (Obj.cells #[.int .i64 qr, .int .i64 qa] 97)) (below_drew (w := (w.alloc (Obj.cells #[.int .i64 qr, .int .i64 qa] 97)))))
 have BB := hide ((below_new w (Obj.cells #[.int .i64 qr, .int .i64 qa] 97)).trans ((below_drew (w := (w.alloc (Obj.cells #[.int .i64 qr, .int .i64 qa] 97)))).mono (by simp)))
 have LD := hide (fun v (r : RdM v y t.d) => loadS_any y t.d qr qa v (h.small hk) r)
 rw [hq] at LD
 have DB := hk.ldb qr qa
 have DK := hide hk
 unfold TwIs Ms.two
 generalize t.d.ldV qr qa = D at LD DB ⊢
 clear h hk hq
 obtain ⟨d0, d1⟩ := DB
 have WR := hide (fun v => wrapS_any (D - s) v)
 generalize (D - s) % 65536 = r at WR ⊢
 have SG1 := hide (fun v => sign_any s v)
 generalize sgB s = b1 at SG1 ⊢
 have SG2 := hide (fun v => sign_any D v)
 generalize sgB D = b2 at SG2 ⊢
 have SG3 := hide (fun v => sign_any r v)
 generalize sgB r = b3 at SG3 ⊢
 go_enter Tryz.func91, Tryz.ntmps91
 go_wp2_with fail
 refine wp_region_held_drew (S := fun v => v.heap[g]? = some (.cells y.cs 26 (0, 0)) ∧ v.heap[w.heap.size]? = some (.cells #[.int .i64 qr, .int .i64 qa] 97 (0, 0))) (by kernel_rfl) ⟨(uh H0).row, uh R0⟩ (fun hS => ?_)
 have HS := hide hS
 clear hS
 generalize (w.alloc (Obj.cells #[.int .i64 qr, .int .i64 qa] 97)).drew = wd at H0 R0 BB HS ⊢
 refine tkB 0 (.pointer (some ⟨g, 0, none⟩)) rfl (uh HS) ?_
 go_simp
 refine tkB 1 (.pointer (some ⟨g, 0, none⟩)) rfl (uh HS) ?_
 go_simp
 refine tkA 2 (.agg y.cs) rfl (yields_load rfl 26 _ rfl g rfl 26 y.cs _ (fun w h => h.1) Tryz.underlying26 rfl (by kernel_rfl)) (uh HS) ?_
 go_simp
 refine tkA 3 (.agg #[.int .i64 qr, .int .i64 qa]) rfl (yields_load rfl 97 _ rfl w.heap.size rfl 97 #[.int .i64 qr, .int .i64 qa] _ (fun w h => h.2) Tryz.underlying97 rfl (by kernel_rfl)) (uh HS) ?_
 go_simp
 refine wpAnyH_ready (rs := [4]) (by kernel_rfl) (by simp) ?_
 refine AllReadyH.cons rfl (fun K2 hK => ?_) (AllReadyH.nil)
 go_simp
 have P := hide (uh LD wd (uh H0).own.rd)
 refine (uh P).mono ?_
 rintro e w2 ⟨rfl, hb⟩
 have H2 := hide ((uh H0).later hb)
 have WD := hide (show w.heap.size < wd.heap.size from row_lt (uh R0))
 have B2 := hide ((uh BB).trans (hb.mono (by have := uh WD; omega)))
 have R2 := hide (row_lat (uh R0) hb)
 refine hK.out _ _ ⟨(uh H2).row, uh R2⟩ (fun hS => ?_)
 clear HS
 have HS := hide hS
 clear hS hK K2 hb P LD H0 R0 BB
 refine tkB 5 (.tuple #[.int .i64 D, .bool true]) rfl (uh HS) ?_
 go_simp
 refine tkB 6 (.int .i64 D) rfl (uh HS) ?_
 go_simp
 refine tkB 7 (.bool true) rfl (uh HS) ?_
 go_simp
 refine tkB 8 (.int .i64 D) rfl (uh HS) ?_
 go_simp
 refine tkB 9 (.bool true) rfl (uh HS) ?_
 go_simp
 refine wpAnyH_done (by kernel_rfl) ?_ _
 clear HS
 go_wp2_with fail
 refine (uh WR _).mono ?_
 rintro e w9 ⟨rfl, hw9⟩
 rw [hw9]
 clear hw9 w9
 go_wp2_with fail
 refine (uh SG1 _).mono ?_
 rintro e w9 ⟨rfl, hw9⟩
 rw [hw9]
 clear hw9 w9
 go_wp2_with fail
 refine (uh SG2 _).mono ?_
 rintro e w9 ⟨rfl, hw9⟩
 rw [hw9]
 clear hw9 w9
 cases b1 <;> cases b2
 ·
  skip
  have NZ := hide (nz_any B g y t st r (((false : Bool) != (false : Bool)) && ((b3 : Bool) == (false : Bool))) w2 (uh H2))
  go_wp2_with fail
  refine (uh NZ).mono ?_
  rintro e w3 ⟨rfl, h3, f3⟩
  have H3 := hide h3
  have F3 := hide ((Fm.of (uh B2)).trans f3)
  have R3 := hide (f3.row (uh R2) (by have := uh GL; omega) (fun e => by have := uh YL _ e; omega))
  clear h3 f3 NZ H2 B2 R2
  have c5 := row_c (uh H3).row
  have f5 := row_fz (uh H3).row 5
  obtain ⟨h4, f4⟩ := (uh H3).setC (decide (D < s))
  have H4 := hide h4
  have F4 := hide ((uh F3).trans f4)
  have R4 := hide (f4.row (uh R3) (by have := uh GL; omega) (fun e => by have := uh YL _ e; omega))
  clear h4 f4
  have P := hide (put7_any B g _ ((t.nz r (((false : Bool) != (false : Bool)) && ((b3 : Bool) == (false : Bool)))).cs (decide (D < s))) st qr qa r _ (uh H4) (uh DK))
  rw [show ((t.nz r (((false : Bool) != (false : Bool)) && ((b3 : Bool) == (false : Bool)))).cs (decide (D < s))).d.ldB qr qa = true from uh HQ] at P
  go_wp2_with (refine wpList_load_row rfl 97 _ rfl w.heap.size rfl 97 #[.int .i64 qr, .int .i64 qa] (0, 0) _ (uh R4) Tryz.underlying97 rfl (by kernel_rfl) ?_)
  refine (uh P).mono ?_
  rintro e w7 ⟨rfl, y7, h7, f7⟩
  have H7 := hide h7
  have F7 := hide ((uh F4).trans f7)
  clear h7 f7 P
  go_wp2
  go_ret
  exact ⟨rfl, y7, fun _ => uh H7, uh F7⟩
 ·
  skip
  go_wp2_with fail
  refine (uh SG3 _).mono ?_
  rintro e w9 ⟨rfl, hw9⟩
  rw [hw9]
  clear hw9 w9
  go_wp2_with fail
  refine (uh SG1 _).mono ?_
  rintro e w9 ⟨rfl, hw9⟩
  rw [hw9]
  clear hw9 w9
  cases b3
  ·
   skip
   have NZ := hide (nz_any B g y t st r (((false : Bool) != (true : Bool)) && ((false : Bool) == (false : Bool))) w2 (uh H2))
   go_wp2_with fail
   refine (uh NZ).mono ?_
   rintro e w3 ⟨rfl, h3, f3⟩
   have H3 := hide h3
   have F3 := hide ((Fm.of (uh B2)).trans f3)
   have R3 := hide (f3.row (uh R2) (by have := uh GL; omega) (fun e => by have := uh YL _ e; omega))
   clear h3 f3 NZ H2 B2 R2
   have c5 := row_c (uh H3).row
   have f5 := row_fz (uh H3).row 5
   obtain ⟨h4, f4⟩ := (uh H3).setC (decide (D < s))
   have H4 := hide h4
   have F4 := hide ((uh F3).trans f4)
   have R4 := hide (f4.row (uh R3) (by have := uh GL; omega) (fun e => by have := uh YL _ e; omega))
   clear h4 f4
   have P := hide (put7_any B g _ ((t.nz r (((false : Bool) != (true : Bool)) && ((false : Bool) == (false : Bool)))).cs (decide (D < s))) st qr qa r _ (uh H4) (uh DK))
   rw [show ((t.nz r (((false : Bool) != (true : Bool)) && ((false : Bool) == (false : Bool)))).cs (decide (D < s))).d.ldB qr qa = true from uh HQ] at P
   go_wp2_with (refine wpList_load_row rfl 97 _ rfl w.heap.size rfl 97 #[.int .i64 qr, .int .i64 qa] (0, 0) _ (uh R4) Tryz.underlying97 rfl (by kernel_rfl) ?_)
   refine (uh P).mono ?_
   rintro e w7 ⟨rfl, y7, h7, f7⟩
   have H7 := hide h7
   have F7 := hide ((uh F4).trans f7)
   clear h7 f7 P
   go_wp2
   go_ret
   exact ⟨rfl, y7, fun _ => uh H7, uh F7⟩
  ·
   skip
   have NZ := hide (nz_any B g y t st r (((false : Bool) != (true : Bool)) && ((true : Bool) == (false : Bool))) w2 (uh H2))
   go_wp2_with fail
   refine (uh NZ).mono ?_
   rintro e w3 ⟨rfl, h3, f3⟩
   have H3 := hide h3
   have F3 := hide ((Fm.of (uh B2)).trans f3)
   have R3 := hide (f3.row (uh R2) (by have := uh GL; omega) (fun e => by have := uh YL _ e; omega))
   clear h3 f3 NZ H2 B2 R2
   have c5 := row_c (uh H3).row
   have f5 := row_fz (uh H3).row 5
   obtain ⟨h4, f4⟩ := (uh H3).setC (decide (D < s))
   have H4 := hide h4
   have F4 := hide ((uh F3).trans f4)
   have R4 := hide (f4.row (uh R3) (by have := uh GL; omega) (fun e => by have := uh YL _ e; omega))
   clear h4 f4
   have P := hide (put7_any B g _ ((t.nz r (((false : Bool) != (true : Bool)) && ((true : Bool) == (false : Bool)))).cs (decide (D < s))) st qr qa r _ (uh H4) (uh DK))
   rw [show ((t.nz r (((false : Bool) != (true : Bool)) && ((true : Bool) == (false : Bool)))).cs (decide (D < s))).d.ldB qr qa = true from uh HQ] at P
   go_wp2_with (refine wpList_load_row rfl 97 _ rfl w.heap.size rfl 97 #[.int .i64 qr, .int .i64 qa] (0, 0) _ (uh R4) Tryz.underlying97 rfl (by kernel_rfl) ?_)
   refine (uh P).mono ?_
   rintro e w7 ⟨rfl, y7, h7, f7⟩
   have H7 := hide h7
   have F7 := hide ((uh F4).trans f7)
   clear h7 f7 P
   go_wp2
   go_ret
   exact ⟨rfl, y7, fun _ => uh H7, uh F7⟩
 ·
  skip
  go_wp2_with fail
  refine (uh SG3 _).mono ?_
  rintro e w9 ⟨rfl, hw9⟩
  rw [hw9]
  clear hw9 w9
  go_wp2_with fail
  refine (uh SG1 _).mono ?_
  rintro e w9 ⟨rfl, hw9⟩
  rw [hw9]
  clear hw9 w9
  cases b3
  ·
   skip
   have NZ := hide (nz_any B g y t st r (((true : Bool) != (false : Bool)) && ((false : Bool) == (true : Bool))) w2 (uh H2))
   go_wp2_with fail
   refine (uh NZ).mono ?_
   rintro e w3 ⟨rfl, h3, f3⟩
   have H3 := hide h3
   have F3 := hide ((Fm.of (uh B2)).trans f3)
   have R3 := hide (f3.row (uh R2) (by have := uh GL; omega) (fun e => by have := uh YL _ e; omega))
   clear h3 f3 NZ H2 B2 R2
   have c5 := row_c (uh H3).row
   have f5 := row_fz (uh H3).row 5
   obtain ⟨h4, f4⟩ := (uh H3).setC (decide (D < s))
   have H4 := hide h4
   have F4 := hide ((uh F3).trans f4)
   have R4 := hide (f4.row (uh R3) (by have := uh GL; omega) (fun e => by have := uh YL _ e; omega))
   clear h4 f4
   have P := hide (put7_any B g _ ((t.nz r (((true : Bool) != (false : Bool)) && ((false : Bool) == (true : Bool)))).cs (decide (D < s))) st qr qa r _ (uh H4) (uh DK))
   rw [show ((t.nz r (((true : Bool) != (false : Bool)) && ((false : Bool) == (true : Bool)))).cs (decide (D < s))).d.ldB qr qa = true from uh HQ] at P
   go_wp2_with (refine wpList_load_row rfl 97 _ rfl w.heap.size rfl 97 #[.int .i64 qr, .int .i64 qa] (0, 0) _ (uh R4) Tryz.underlying97 rfl (by kernel_rfl) ?_)
   refine (uh P).mono ?_
   rintro e w7 ⟨rfl, y7, h7, f7⟩
   have H7 := hide h7
   have F7 := hide ((uh F4).trans f7)
   clear h7 f7 P
   go_wp2
   go_ret
   exact ⟨rfl, y7, fun _ => uh H7, uh F7⟩
  ·
   skip
   have NZ := hide (nz_any B g y t st r (((true : Bool) != (false : Bool)) && ((true : Bool) == (true : Bool))) w2 (uh H2))
   go_wp2_with fail
   refine (uh NZ).mono ?_
   rintro e w3 ⟨rfl, h3, f3⟩
   have H3 := hide h3
   have F3 := hide ((Fm.of (uh B2)).trans f3)
   have R3 := hide (f3.row (uh R2) (by have := uh GL; omega) (fun e => by have := uh YL _ e; omega))
   clear h3 f3 NZ H2 B2 R2
   have c5 := row_c (uh H3).row
   have f5 := row_fz (uh H3).row 5
   obtain ⟨h4, f4⟩ := (uh H3).setC (decide (D < s))
   have H4 := hide h4
   have F4 := hide ((uh F3).trans f4)
   have R4 := hide (f4.row (uh R3) (by have := uh GL; omega) (fun e => by have := uh YL _ e; omega))
   clear h4 f4
   have P := hide (put7_any B g _ ((t.nz r (((true : Bool) != (false : Bool)) && ((true : Bool) == (true : Bool)))).cs (decide (D < s))) st qr qa r _ (uh H4) (uh DK))
   rw [show ((t.nz r (((true : Bool) != (false : Bool)) && ((true : Bool) == (true : Bool)))).cs (decide (D < s))).d.ldB qr qa = true from uh HQ] at P
   go_wp2_with (refine wpList_load_row rfl 97 _ rfl w.heap.size rfl 97 #[.int .i64 qr, .int .i64 qa] (0, 0) _ (uh R4) Tryz.underlying97 rfl (by kernel_rfl) ?_)
   refine (uh P).mono ?_
   rintro e w7 ⟨rfl, y7, h7, f7⟩
   have H7 := hide h7
   have F7 := hide ((uh F4).trans f7)
   clear h7 f7 P
   go_wp2
   go_ret
   exact ⟨rfl, y7, fun _ => uh H7, uh F7⟩
 ·
  skip
  have NZ := hide (nz_any B g y t st r (((true : Bool) != (true : Bool)) && ((b3 : Bool) == (true : Bool))) w2 (uh H2))
  go_wp2_with fail
  refine (uh NZ).mono ?_
  rintro e w3 ⟨rfl, h3, f3⟩
  have H3 := hide h3
  have F3 := hide ((Fm.of (uh B2)).trans f3)
  have R3 := hide (f3.row (uh R2) (by have := uh GL; omega) (fun e => by have := uh YL _ e; omega))
  clear h3 f3 NZ H2 B2 R2
  have c5 := row_c (uh H3).row
  have f5 := row_fz (uh H3).row 5
  obtain ⟨h4, f4⟩ := (uh H3).setC (decide (D < s))
  have H4 := hide h4
  have F4 := hide ((uh F3).trans f4)
  have R4 := hide (f4.row (uh R3) (by have := uh GL; omega) (fun e => by have := uh YL _ e; omega))
  clear h4 f4
  have P := hide (put7_any B g _ ((t.nz r (((true : Bool) != (true : Bool)) && ((b3 : Bool) == (true : Bool)))).cs (decide (D < s))) st qr qa r _ (uh H4) (uh DK))
  rw [show ((t.nz r (((true : Bool) != (true : Bool)) && ((b3 : Bool) == (true : Bool)))).cs (decide (D < s))).d.ldB qr qa = true from uh HQ] at P
  go_wp2_with (refine wpList_load_row rfl 97 _ rfl w.heap.size rfl 97 #[.int .i64 qr, .int .i64 qa] (0, 0) _ (uh R4) Tryz.underlying97 rfl (by kernel_rfl) ?_)
  refine (uh P).mono ?_
  rintro e w7 ⟨rfl, y7, h7, f7⟩
  have H7 := hide h7
  have F7 := hide ((uh F4).trans f7)
  clear h7 f7 P
  go_wp2
  go_ret
  exact ⟨rfl, y7, fun _ => uh H7, uh F7⟩
theorem two_any (B g : Nat) (y : Mv) (t : Ms) (st s qr qa : Int) (op : Nat) (ho : 1 ≤ op ∧ op ≤ 6) (w : World) (h : Sm w B g y t st) (hk : Dk t.d) (hs : 0 ≤ s ∧ s ≤ 65535) : TwIs B g y t (t.two op s qr qa) st op s qr qa (t.d.ldB qr qa) w := by
 by_cases h1 : op = 1
 ·
  subst h1
  exact two_1 B g y t st s qr qa w h hk hs
 ·
  obtain ⟨q, hq⟩ : ∃ q, t.d.ldB qr qa = q := ⟨_, rfl⟩
  rw [hq]
  have e : op = 2 ∨ op = 3 ∨ op = 4 ∨ op = 5 ∨ op = 6 := by omega
  cases q
  ·
   have key : ∀ t2 : Ms, ∀ o : Int, TwIs B g y t t st o s qr qa false w → TwIs B g y t t2 st o s qr qa false w := fun t2 o k => k.mono fun e w' ⟨a, y', _, f⟩ => ⟨a, y', fun h => Bool.noConfusion h, f⟩
   rcases e with rfl | rfl | rfl | rfl | rfl
   · exact key _ _ (two_2n B g y t st s qr qa w h hk hs hq)
   · exact key _ _ (two_3n B g y t st s qr qa w h hk hs hq)
   · exact key _ _ (two_4n B g y t st s qr qa w h hk hs hq)
   · exact key _ _ (two_5n B g y t st s qr qa w h hk hs hq)
   · exact key _ _ (two_6n B g y t st s qr qa w h hk hs hq)
  ·
   rcases e with rfl | rfl | rfl | rfl | rfl
   · exact two_2 B g y t st s qr qa w h hk hs hq
   · exact two_3 B g y t st s qr qa w h hk hs hq
   · exact two_4 B g y t st s qr qa w h hk hs hq
   · exact two_5 B g y t st s qr qa w h hk hs hq
   · exact two_6 B g y t st s qr qa w h hk hs hq
end Go.Proofs.YtjpbjbnialehbaaGreatDoor
