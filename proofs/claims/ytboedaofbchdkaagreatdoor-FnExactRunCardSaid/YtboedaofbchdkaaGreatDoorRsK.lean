/- Contracts over this seat's translation, laid together; conditions stand as hypotheses of each. -/
import Derived.Test.YtboedaofbchdkaaGreatDoorRsJ
import Derived.OrdersHeld
namespace Go.Proofs.YtboedaofbchdkaaGreatDoor
open Go.ChangeShapes Go.WideShapes Go.ChangeAt Go.RowKit
set_option maxHeartbeats 16000000
set_option linter.unusedVariables false
set_option maxRecDepth 8000
set_option linter.unusedSimpArgs false
def Ms.one (t : Ms) (op : Nat) (qr qa : Int) : Ms :=
 match op with
 | 7 => ((t.nz 0 false).cs false).st qr qa 0
 | 8 => (t.nz (t.d.ldV qr qa + 1) (t.d.ldV qr qa == 32767)).st qr qa (t.d.ldV qr qa + 1)
 | 9 => (t.nz (t.d.ldV qr qa - 1) (t.d.ldV qr qa == 32768)).st qr qa (t.d.ldV qr qa - 1)
 | 10 => ((t.nz (-t.d.ldV qr qa) (t.d.ldV qr qa == 32768)).cs (t.d.ldV qr qa != 0)).st qr qa (-t.d.ldV qr qa)
 | 11 => (t.nz (t.d.ldV qr qa) false).cs false
 | 12 => t.shift 12 (t.d.ldV qr qa) qr qa
 | _ => t.shift 13 (t.d.ldV qr qa) qr qa
def OnIs (B g : Nat) (y : Mv) (t t2 : Ms) (st op qr qa : Int) (ok : Bool) (w : World) : Prop :=
 Calls Tryz.prog 35 #[.pointer (some ⟨g, 0, none⟩), .int .i64 op, .agg #[.int .i64 qr, .int .i64 qa]] w fun e w' => e = .returned (.bool ok) ∧ ∃ y', (ok = true → Sm w' B g y' t2 st) ∧ Fm w w' g y y'
theorem one_n (B g : Nat) (y : Mv) (t : Ms) (st qr qa : Int) (w : World) (op : Int) (t2 : Ms) (h : Sm w B g y t st) (hk : Dk t.d) (hq : t.d.ldB qr qa = false) : OnIs B g y t (t2) st op qr qa false w := by
 have hs : (0 : Int) ≤ 0 ∧ (0 : Int) ≤ 65535 := by omega
 have HQ := hide hq
 obtain ⟨s0, s1⟩ := hs
 have GL := hide (show g < w.heap.size from row_lt h.row)
 have YL := hide (fun b (hb : y.at b) => (h.own.lo hb).2)
 have H0 := hide ((h.later (below_new w (Obj.cells #[.int .i64 qr, .int .i64 qa] 57))).later (below_drew (w := (w.alloc (Obj.cells #[.int .i64 qr, .int .i64 qa] 57)))))
 have R0 := hide (row_lat (heap_alloc_last w (Obj.cells #[.int .i64 qr, .int .i64 qa] 57)) (below_drew (w := (w.alloc (Obj.cells #[.int .i64 qr, .int .i64 qa] 57)))))
 have BB := hide ((below_new w (Obj.cells #[.int .i64 qr, .int .i64 qa] 57)).trans ((below_drew (w := (w.alloc (Obj.cells #[.int .i64 qr, .int .i64 qa] 57)))).mono (by simp)))
 have LD := hide (fun v (r : RdM v y t.d) => loadS_any y t.d qr qa v (h.small hk) r)
 rw [hq] at LD
 have DB := hk.ldb qr qa
 have DK := hide hk
 unfold OnIs
 generalize t.d.ldV qr qa = D at LD DB ⊢
 clear h hk hq
 obtain ⟨d0, d1⟩ := DB
 go_enter Tryz.func35, Tryz.ntmps35
 go_wp2_with fail
 refine wp_region_held_drew (S := fun v => v.heap[g]? = some (.cells y.cs 26 (0, 0)) ∧ v.heap[w.heap.size]? = some (.cells #[.int .i64 qr, .int .i64 qa] 57 (0, 0))) (by kernel_rfl) ⟨(uh H0).row, uh R0⟩ (fun hS => ?_)
 have HS := hide hS
 clear hS
 generalize (w.alloc (Obj.cells #[.int .i64 qr, .int .i64 qa] 57)).drew = wd at H0 R0 BB HS ⊢
 refine tkB 0 (.pointer (some ⟨g, 0, none⟩)) rfl (uh HS) ?_
 go_simp
 refine tkB 1 (.pointer (some ⟨g, 0, none⟩)) rfl (uh HS) ?_
 go_simp
 refine tkA 2 (.agg y.cs) rfl (yields_load rfl 26 _ rfl g rfl 26 y.cs _ (fun w h => h.1) Tryz.underlying26 rfl (by kernel_rfl)) (uh HS) ?_
 go_simp
 refine tkA 3 (.agg #[.int .i64 qr, .int .i64 qa]) rfl (yields_load rfl 57 _ rfl w.heap.size rfl 57 #[.int .i64 qr, .int .i64 qa] _ (fun w h => h.2) Tryz.underlying57 rfl (by kernel_rfl)) (uh HS) ?_
 go_simp
 refine wpAnyH_ready (rs := [4]) (by kernel_rfl) (by simp) ?_
 refine AllReadyH.cons rfl (fun K2 hK => ?_) (AllReadyH.nil)
 go_simp
 have P := hide (uh LD wd (uh H0).own.rd)
 refine (uh P).mono ?_
 rintro e w2 ⟨rfl, hb⟩
 have H2 := hide ((uh H0).later hb)
 have WD := hide (show w.heap.size < wd.heap.size from row_lt (uh R0))
 have B2 := hide ((uh BB).trans (hb.mono (by have := uh WD; omega)))
 have R2 := hide (row_lat (uh R0) hb)
 refine hK.out _ _ ⟨(uh H2).row, uh R2⟩ (fun hS => ?_)
 clear HS
 have HS := hide hS
 clear hS hK K2 hb P LD H0 R0 BB
 refine tkB 5 (.tuple #[.int .i64 D, .bool false]) rfl (uh HS) ?_
 go_simp
 refine tkB 6 (.int .i64 D) rfl (uh HS) ?_
 go_simp
 refine tkB 7 (.bool false) rfl (uh HS) ?_
 go_simp
 refine tkB 8 (.int .i64 D) rfl (uh HS) ?_
 go_simp
 refine tkB 9 (.bool false) rfl (uh HS) ?_
 go_simp
 refine wpAnyH_done (by kernel_rfl) ?_ _
 clear HS
 go_wp2_with fail
 go_ret
 exact ⟨rfl, y, fun h => Bool.noConfusion h, Fm.of (uh B2)⟩
theorem one_7 (B g : Nat) (y : Mv) (t : Ms) (st qr qa : Int) (w : World) (h : Sm w B g y t st) (hk : Dk t.d) (hq : t.d.ldB qr qa = true) : OnIs B g y t (t.one 7 qr qa) st 7 qr qa true w := by
 have hs : (0 : Int) ≤ 0 ∧ (0 : Int) ≤ 65535 := by omega
 have HQ := hide hq
 obtain ⟨s0, s1⟩ := hs
 have GL := hide (show g < w.heap.size from row_lt h.row)
 have YL := hide (fun b (hb : y.at b) => (h.own.lo hb).2)
 have H0 := hide ((h.later (below_new w (Obj.cells #[.int .i64 qr, .int .i64 qa] 57))).later (below_drew (w := (w.alloc (Obj.cells #[.int .i64 qr, .int .i64 qa] 57)))))
 have R0 := hide (row_lat (heap_alloc_last w (Obj.cells #[.int .i64 qr, .int .i64 qa] 57)) (below_drew (w := (w.alloc (Obj.cells #[.int .i64 qr, .int .i64 qa] 57)))))
 have BB := hide ((below_new w (Obj.cells #[.int .i64 qr, .int .i64 qa] 57)).trans ((below_drew (w := (w.alloc (Obj.cells #[.int .i64 qr, .int .i64 qa] 57)))).mono (by simp)))
 have LD := hide (fun v (r : RdM v y t.d) => loadS_any y t.d qr qa v (h.small hk) r)
 rw [hq] at LD
 have DB := hk.ldb qr qa
 have DK := hide hk
 unfold OnIs Ms.one
 generalize t.d.ldV qr qa = D at LD DB ⊢
 clear h hk hq
 obtain ⟨d0, d1⟩ := DB
 go_enter Tryz.func35, Tryz.ntmps35
 go_wp2_with fail
 refine wp_region_held_drew (S := fun v => v.heap[g]? = some (.cells y.cs 26 (0, 0)) ∧ v.heap[w.heap.size]? = some (.cells #[.int .i64 qr, .int .i64 qa] 57 (0, 0))) (by kernel_rfl) ⟨(uh H0).row, uh R0⟩ (fun hS => ?_)
 have HS := hide hS
 clear hS
 generalize (w.alloc (Obj.cells #[.int .i64 qr, .int .i64 qa] 57)).drew = wd at H0 R0 BB HS ⊢
 refine tkB 0 (.pointer (some ⟨g, 0, none⟩)) rfl (uh HS) ?_
 go_simp
 refine tkB 1 (.pointer (some ⟨g, 0, none⟩)) rfl (uh HS) ?_
 go_simp
 refine tkA 2 (.agg y.cs) rfl (yields_load rfl 26 _ rfl g rfl 26 y.cs _ (fun w h => h.1) Tryz.underlying26 rfl (by kernel_rfl)) (uh HS) ?_
 go_simp
 refine tkA 3 (.agg #[.int .i64 qr, .int .i64 qa]) rfl (yields_load rfl 57 _ rfl w.heap.size rfl 57 #[.int .i64 qr, .int .i64 qa] _ (fun w h => h.2) Tryz.underlying57 rfl (by kernel_rfl)) (uh HS) ?_
 go_simp
 refine wpAnyH_ready (rs := [4]) (by kernel_rfl) (by simp) ?_
 refine AllReadyH.cons rfl (fun K2 hK => ?_) (AllReadyH.nil)
 go_simp
 have P := hide (uh LD wd (uh H0).own.rd)
 refine (uh P).mono ?_
 rintro e w2 ⟨rfl, hb⟩
 have H2 := hide ((uh H0).later hb)
 have WD := hide (show w.heap.size < wd.heap.size from row_lt (uh R0))
 have B2 := hide ((uh BB).trans (hb.mono (by have := uh WD; omega)))
 have R2 := hide (row_lat (uh R0) hb)
 refine hK.out _ _ ⟨(uh H2).row, uh R2⟩ (fun hS => ?_)
 clear HS
 have HS := hide hS
 clear hS hK K2 hb P LD H0 R0 BB
 refine tkB 5 (.tuple #[.int .i64 D, .bool true]) rfl (uh HS) ?_
 go_simp
 refine tkB 6 (.int .i64 D) rfl (uh HS) ?_
 go_simp
 refine tkB 7 (.bool true) rfl (uh HS) ?_
 go_simp
 refine tkB 8 (.int .i64 D) rfl (uh HS) ?_
 go_simp
 refine tkB 9 (.bool true) rfl (uh HS) ?_
 go_simp
 refine wpAnyH_done (by kernel_rfl) ?_ _
 clear HS
 have NZ := hide (nz_any B g y t st 0 false w2 (uh H2))
 go_wp2_with fail
 refine (uh NZ).mono ?_
 rintro e w3 ⟨rfl, h3, f3⟩
 have H3 := hide h3
 have F3 := hide ((Fm.of (uh B2)).trans f3)
 have R3 := hide (f3.row (uh R2) (by have := uh GL; omega) (fun e => by have := uh YL _ e; omega))
 clear h3 f3 NZ H2 B2 R2
 have c5 := row_c (uh H3).row
 have f5 := row_fz (uh H3).row 5
 obtain ⟨h4, f4⟩ := (uh H3).setC (false)
 have H4 := hide h4
 have F4 := hide ((uh F3).trans f4)
 have R4 := hide (f4.row (uh R3) (by have := uh GL; omega) (fun e => by have := uh YL _ e; omega))
 clear h4 f4
 have P := hide (put7_any B g _ ((t.nz 0 false).cs false) st qr qa 0 _ (uh H4) (uh DK))
 rw [show ((t.nz 0 false).cs false).d.ldB qr qa = true from uh HQ] at P
 go_wp2_with (refine wpList_load_row rfl 57 _ rfl w.heap.size rfl 57 #[.int .i64 qr, .int .i64 qa] (0, 0) _ (uh R4) Tryz.underlying57 rfl (by kernel_rfl) ?_)
 refine (uh P).mono ?_
 rintro e w7 ⟨rfl, y7, h7, f7⟩
 have H7 := hide h7
 have F7 := hide ((uh F4).trans f7)
 clear h7 f7 P
 go_wp2
 go_ret
 exact ⟨rfl, y7, fun _ => uh H7, uh F7⟩
theorem one_8 (B g : Nat) (y : Mv) (t : Ms) (st qr qa : Int) (w : World) (h : Sm w B g y t st) (hk : Dk t.d) (hq : t.d.ldB qr qa = true) : OnIs B g y t (t.one 8 qr qa) st 8 qr qa true w := by
 have hs : (0 : Int) ≤ 0 ∧ (0 : Int) ≤ 65535 := by omega
 have HQ := hide hq
 obtain ⟨s0, s1⟩ := hs
 have GL := hide (show g < w.heap.size from row_lt h.row)
 have YL := hide (fun b (hb : y.at b) => (h.own.lo hb).2)
 have H0 := hide ((h.later (below_new w (Obj.cells #[.int .i64 qr, .int .i64 qa] 57))).later (below_drew (w := (w.alloc (Obj.cells #[.int .i64 qr, .int .i64 qa] 57)))))
 have R0 := hide (row_lat (heap_alloc_last w (Obj.cells #[.int .i64 qr, .int .i64 qa] 57)) (below_drew (w := (w.alloc (Obj.cells #[.int .i64 qr, .int .i64 qa] 57)))))
 have BB := hide ((below_new w (Obj.cells #[.int .i64 qr, .int .i64 qa] 57)).trans ((below_drew (w := (w.alloc (Obj.cells #[.int .i64 qr, .int .i64 qa] 57)))).mono (by simp)))
 have LD := hide (fun v (r : RdM v y t.d) => loadS_any y t.d qr qa v (h.small hk) r)
 rw [hq] at LD
 have DB := hk.ldb qr qa
 have DK := hide hk
 unfold OnIs Ms.one
 generalize t.d.ldV qr qa = D at LD DB ⊢
 clear h hk hq
 obtain ⟨d0, d1⟩ := DB
 go_enter Tryz.func35, Tryz.ntmps35
 go_wp2_with fail
 refine wp_region_held_drew (S := fun v => v.heap[g]? = some (.cells y.cs 26 (0, 0)) ∧ v.heap[w.heap.size]? = some (.cells #[.int .i64 qr, .int .i64 qa] 57 (0, 0))) (by kernel_rfl) ⟨(uh H0).row, uh R0⟩ (fun hS => ?_)
 have HS := hide hS
 clear hS
 generalize (w.alloc (Obj.cells #[.int .i64 qr, .int .i64 qa] 57)).drew = wd at H0 R0 BB HS ⊢
 refine tkB 0 (.pointer (some ⟨g, 0, none⟩)) rfl (uh HS) ?_
 go_simp
 refine tkB 1 (.pointer (some ⟨g, 0, none⟩)) rfl (uh HS) ?_
 go_simp
 refine tkA 2 (.agg y.cs) rfl (yields_load rfl 26 _ rfl g rfl 26 y.cs _ (fun w h => h.1) Tryz.underlying26 rfl (by kernel_rfl)) (uh HS) ?_
 go_simp
 refine tkA 3 (.agg #[.int .i64 qr, .int .i64 qa]) rfl (yields_load rfl 57 _ rfl w.heap.size rfl 57 #[.int .i64 qr, .int .i64 qa] _ (fun w h => h.2) Tryz.underlying57 rfl (by kernel_rfl)) (uh HS) ?_
 go_simp
 refine wpAnyH_ready (rs := [4]) (by kernel_rfl) (by simp) ?_
 refine AllReadyH.cons rfl (fun K2 hK => ?_) (AllReadyH.nil)
 go_simp
 have P := hide (uh LD wd (uh H0).own.rd)
 refine (uh P).mono ?_
 rintro e w2 ⟨rfl, hb⟩
 have H2 := hide ((uh H0).later hb)
 have WD := hide (show w.heap.size < wd.heap.size from row_lt (uh R0))
 have B2 := hide ((uh BB).trans (hb.mono (by have := uh WD; omega)))
 have R2 := hide (row_lat (uh R0) hb)
 refine hK.out _ _ ⟨(uh H2).row, uh R2⟩ (fun hS => ?_)
 clear HS
 have HS := hide hS
 clear hS hK K2 hb P LD H0 R0 BB
 refine tkB 5 (.tuple #[.int .i64 D, .bool true]) rfl (uh HS) ?_
 go_simp
 refine tkB 6 (.int .i64 D) rfl (uh HS) ?_
 go_simp
 refine tkB 7 (.bool true) rfl (uh HS) ?_
 go_simp
 refine tkB 8 (.int .i64 D) rfl (uh HS) ?_
 go_simp
 refine tkB 9 (.bool true) rfl (uh HS) ?_
 go_simp
 refine wpAnyH_done (by kernel_rfl) ?_ _
 clear HS
 have NZ := hide (nz_any B g y t st (D + 1) (D == 32767) w2 (uh H2))
 go_wp2_with fail
 refine (uh NZ).mono ?_
 rintro e w3 ⟨rfl, h3, f3⟩
 have H3 := hide h3
 have F3 := hide ((Fm.of (uh B2)).trans f3)
 have R3 := hide (f3.row (uh R2) (by have := uh GL; omega) (fun e => by have := uh YL _ e; omega))
 clear h3 f3 NZ H2 B2 R2
 have P := hide (put7_any B g _ (t.nz (D + 1) (D == 32767)) st qr qa (D + 1) _ (uh H3) (uh DK))
 rw [show (t.nz (D + 1) (D == 32767)).d.ldB qr qa = true from uh HQ] at P
 go_wp2_with (refine wpList_load_row rfl 57 _ rfl w.heap.size rfl 57 #[.int .i64 qr, .int .i64 qa] (0, 0) _ (uh R3) Tryz.underlying57 rfl (by kernel_rfl) ?_)
 refine (uh P).mono ?_
 rintro e w7 ⟨rfl, y7, h7, f7⟩
 have H7 := hide h7
 have F7 := hide ((uh F3).trans f7)
 clear h7 f7 P
 go_wp2
 go_ret
 exact ⟨rfl, y7, fun _ => uh H7, uh F7⟩
theorem one_9 (B g : Nat) (y : Mv) (t : Ms) (st qr qa : Int) (w : World) (h : Sm w B g y t st) (hk : Dk t.d) (hq : t.d.ldB qr qa = true) : OnIs B g y t (t.one 9 qr qa) st 9 qr qa true w := by
 have hs : (0 : Int) ≤ 0 ∧ (0 : Int) ≤ 65535 := by omega
 have HQ := hide hq
 obtain ⟨s0, s1⟩ := hs
 have GL := hide (show g < w.heap.size from row_lt h.row)
 have YL := hide (fun b (hb : y.at b) => (h.own.lo hb).2)
 have H0 := hide ((h.later (below_new w (Obj.cells #[.int .i64 qr, .int .i64 qa] 57))).later (below_drew (w := (w.alloc (Obj.cells #[.int .i64 qr, .int .i64 qa] 57)))))
 have R0 := hide (row_lat (heap_alloc_last w (Obj.cells #[.int .i64 qr, .int .i64 qa] 57)) (below_drew (w := (w.alloc (Obj.cells #[.int .i64 qr, .int .i64 qa] 57)))))
 have BB := hide ((below_new w (Obj.cells #[.int .i64 qr, .int .i64 qa] 57)).trans ((below_drew (w := (w.alloc (Obj.cells #[.int .i64 qr, .int .i64 qa] 57)))).mono (by simp)))
 have LD := hide (fun v (r : RdM v y t.d) => loadS_any y t.d qr qa v (h.small hk) r)
 rw [hq] at LD
 have DB := hk.ldb qr qa
 have DK := hide hk
 unfold OnIs Ms.one
 generalize t.d.ldV qr qa = D at LD DB ⊢
 clear h hk hq
 obtain ⟨d0, d1⟩ := DB
 go_enter Tryz.func35, Tryz.ntmps35
 go_wp2_with fail
 refine wp_region_held_drew (S := fun v => v.heap[g]? = some (.cells y.cs 26 (0, 0)) ∧ v.heap[w.heap.size]? = some (.cells #[.int .i64 qr, .int .i64 qa] 57 (0, 0))) (by kernel_rfl) ⟨(uh H0).row, uh R0⟩ (fun hS => ?_)
 have HS := hide hS
 clear hS
 generalize (w.alloc (Obj.cells #[.int .i64 qr, .int .i64 qa] 57)).drew = wd at H0 R0 BB HS ⊢
 refine tkB 0 (.pointer (some ⟨g, 0, none⟩)) rfl (uh HS) ?_
 go_simp
 refine tkB 1 (.pointer (some ⟨g, 0, none⟩)) rfl (uh HS) ?_
 go_simp
 refine tkA 2 (.agg y.cs) rfl (yields_load rfl 26 _ rfl g rfl 26 y.cs _ (fun w h => h.1) Tryz.underlying26 rfl (by kernel_rfl)) (uh HS) ?_
 go_simp
 refine tkA 3 (.agg #[.int .i64 qr, .int .i64 qa]) rfl (yields_load rfl 57 _ rfl w.heap.size rfl 57 #[.int .i64 qr, .int .i64 qa] _ (fun w h => h.2) Tryz.underlying57 rfl (by kernel_rfl)) (uh HS) ?_
 go_simp
 refine wpAnyH_ready (rs := [4]) (by kernel_rfl) (by simp) ?_
 refine AllReadyH.cons rfl (fun K2 hK => ?_) (AllReadyH.nil)
 go_simp
 have P := hide (uh LD wd (uh H0).own.rd)
 refine (uh P).mono ?_
 rintro e w2 ⟨rfl, hb⟩
 have H2 := hide ((uh H0).later hb)
 have WD := hide (show w.heap.size < wd.heap.size from row_lt (uh R0))
 have B2 := hide ((uh BB).trans (hb.mono (by have := uh WD; omega)))
 have R2 := hide (row_lat (uh R0) hb)
 refine hK.out _ _ ⟨(uh H2).row, uh R2⟩ (fun hS => ?_)
 clear HS
 have HS := hide hS
 clear hS hK K2 hb P LD H0 R0 BB
 refine tkB 5 (.tuple #[.int .i64 D, .bool true]) rfl (uh HS) ?_
 go_simp
 refine tkB 6 (.int .i64 D) rfl (uh HS) ?_
 go_simp
 refine tkB 7 (.bool true) rfl (uh HS) ?_
 go_simp
 refine tkB 8 (.int .i64 D) rfl (uh HS) ?_
 go_simp
 refine tkB 9 (.bool true) rfl (uh HS) ?_
 go_simp
 refine wpAnyH_done (by kernel_rfl) ?_ _
 clear HS
 have NZ := hide (nz_any B g y t st (D - 1) (D == 32768) w2 (uh H2))
 go_wp2_with fail
 refine (uh NZ).mono ?_
 rintro e w3 ⟨rfl, h3, f3⟩
 have H3 := hide h3
 have F3 := hide ((Fm.of (uh B2)).trans f3)
 have R3 := hide (f3.row (uh R2) (by have := uh GL; omega) (fun e => by have := uh YL _ e; omega))
 clear h3 f3 NZ H2 B2 R2
 have P := hide (put7_any B g _ (t.nz (D - 1) (D == 32768)) st qr qa (D - 1) _ (uh H3) (uh DK))
 rw [show (t.nz (D - 1) (D == 32768)).d.ldB qr qa = true from uh HQ] at P
 go_wp2_with (refine wpList_load_row rfl 57 _ rfl w.heap.size rfl 57 #[.int .i64 qr, .int .i64 qa] (0, 0) _ (uh R3) Tryz.underlying57 rfl (by kernel_rfl) ?_)
 refine (uh P).mono ?_
 rintro e w7 ⟨rfl, y7, h7, f7⟩
 have H7 := hide h7
 have F7 := hide ((uh F3).trans f7)
 clear h7 f7 P
 go_wp2
 go_ret
 exact ⟨rfl, y7, fun _ => uh H7, uh F7⟩
theorem one_10 (B g : Nat) (y : Mv) (t : Ms) (st qr qa : Int) (w : World) (h : Sm w B g y t st) (hk : Dk t.d) (hq : t.d.ldB qr qa = true) : OnIs B g y t (t.one 10 qr qa) st 10 qr qa true w := by
 have hs : (0 : Int) ≤ 0 ∧ (0 : Int) ≤ 65535 := by omega
 have HQ := hide hq
 obtain ⟨s0, s1⟩ := hs
 have GL := hide (show g < w.heap.size from row_lt h.row)
 have YL := hide (fun b (hb : y.at b) => (h.own.lo hb).2)
 have H0 := hide ((h.later (below_new w (Obj.cells #[.int .i64 qr, .int .i64 qa] 57))).later (below_drew (w := (w.alloc (Obj.cells #[.int .i64 qr, .int .i64 qa] 57)))))
 have R0 := hide (row_lat (heap_alloc_last w (Obj.cells #[.int .i64 qr, .int .i64 qa] 57)) (below_drew (w := (w.alloc (Obj.cells #[.int .i64 qr, .int .i64 qa] 57)))))
 have BB := hide ((below_new w (Obj.cells #[.int .i64 qr, .int .i64 qa] 57)).trans ((below_drew (w := (w.alloc (Obj.cells #[.int .i64 qr, .int .i64 qa] 57)))).mono (by simp)))
 have LD := hide (fun v (r : RdM v y t.d) => loadS_any y t.d qr qa v (h.small hk) r)
 rw [hq] at LD
 have DB := hk.ldb qr qa
 have DK := hide hk
 unfold OnIs Ms.one
 generalize t.d.ldV qr qa = D at LD DB ⊢
 clear h hk hq
 obtain ⟨d0, d1⟩ := DB
 go_enter Tryz.func35, Tryz.ntmps35
 go_wp2_with fail
 refine wp_region_held_drew (S := fun v => v.heap[g]? = some (.cells y.cs 26 (0, 0)) ∧ v.heap[w.heap.size]? = some (.cells #[.int .i64 qr, .int .i64 qa] 57 (0, 0))) (by kernel_rfl) ⟨(uh H0).row, uh R0⟩ (fun hS => ?_)
 have HS := hide hS
 clear hS
 generalize (w.alloc (Obj.cells #[.int .i64 qr, .int .i64 qa] 57)).drew = wd at H0 R0 BB HS ⊢
 refine tkB 0 (.pointer (some ⟨g, 0, none⟩)) rfl (uh HS) ?_
 go_simp
 refine tkB 1 (.pointer (some ⟨g, 0, none⟩)) rfl (uh HS) ?_
 go_simp
 refine tkA 2 (.agg y.cs) rfl (yields_load rfl 26 _ rfl g rfl 26 y.cs _ (fun w h => h.1) Tryz.underlying26 rfl (by kernel_rfl)) (uh HS) ?_
 go_simp
 refine tkA 3 (.agg #[.int .i64 qr, .int .i64 qa]) rfl (yields_load rfl 57 _ rfl w.heap.size rfl 57 #[.int .i64 qr, .int .i64 qa] _ (fun w h => h.2) Tryz.underlying57 rfl (by kernel_rfl)) (uh HS) ?_
 go_simp
 refine wpAnyH_ready (rs := [4]) (by kernel_rfl) (by simp) ?_
 refine AllReadyH.cons rfl (fun K2 hK => ?_) (AllReadyH.nil)
 go_simp
 have P := hide (uh LD wd (uh H0).own.rd)
 refine (uh P).mono ?_
 rintro e w2 ⟨rfl, hb⟩
 have H2 := hide ((uh H0).later hb)
 have WD := hide (show w.heap.size < wd.heap.size from row_lt (uh R0))
 have B2 := hide ((uh BB).trans (hb.mono (by have := uh WD; omega)))
 have R2 := hide (row_lat (uh R0) hb)
 refine hK.out _ _ ⟨(uh H2).row, uh R2⟩ (fun hS => ?_)
 clear HS
 have HS := hide hS
 clear hS hK K2 hb P LD H0 R0 BB
 refine tkB 5 (.tuple #[.int .i64 D, .bool true]) rfl (uh HS) ?_
 go_simp
 refine tkB 6 (.int .i64 D) rfl (uh HS) ?_
 go_simp
 refine tkB 7 (.bool true) rfl (uh HS) ?_
 go_simp
 refine tkB 8 (.int .i64 D) rfl (uh HS) ?_
 go_simp
 refine tkB 9 (.bool true) rfl (uh HS) ?_
 go_simp
 refine wpAnyH_done (by kernel_rfl) ?_ _
 clear HS
 have NZ := hide (nz_any B g y t st (-D) (D == 32768) w2 (uh H2))
 go_wp2_with fail
 refine (uh NZ).mono ?_
 rintro e w3 ⟨rfl, h3, f3⟩
 have H3 := hide h3
 have F3 := hide ((Fm.of (uh B2)).trans f3)
 have R3 := hide (f3.row (uh R2) (by have := uh GL; omega) (fun e => by have := uh YL _ e; omega))
 clear h3 f3 NZ H2 B2 R2
 have c5 := row_c (uh H3).row
 have f5 := row_fz (uh H3).row 5
 obtain ⟨h4, f4⟩ := (uh H3).setC (D != 0)
 have H4 := hide h4
 have F4 := hide ((uh F3).trans f4)
 have R4 := hide (f4.row (uh R3) (by have := uh GL; omega) (fun e => by have := uh YL _ e; omega))
 clear h4 f4
 have P := hide (put7_any B g _ ((t.nz (-D) (D == 32768)).cs (D != 0)) st qr qa (-D) _ (uh H4) (uh DK))
 rw [show ((t.nz (-D) (D == 32768)).cs (D != 0)).d.ldB qr qa = true from uh HQ] at P
 go_wp2_with (refine wpList_load_row rfl 57 _ rfl w.heap.size rfl 57 #[.int .i64 qr, .int .i64 qa] (0, 0) _ (uh R4) Tryz.underlying57 rfl (by kernel_rfl) ?_)
 refine (uh P).mono ?_
 rintro e w7 ⟨rfl, y7, h7, f7⟩
 have H7 := hide h7
 have F7 := hide ((uh F4).trans f7)
 clear h7 f7 P
 go_wp2
 go_ret
 exact ⟨rfl, y7, fun _ => uh H7, uh F7⟩
theorem one_11 (B g : Nat) (y : Mv) (t : Ms) (st qr qa : Int) (w : World) (h : Sm w B g y t st) (hk : Dk t.d) (hq : t.d.ldB qr qa = true) : OnIs B g y t (t.one 11 qr qa) st 11 qr qa true w := by
 have hs : (0 : Int) ≤ 0 ∧ (0 : Int) ≤ 65535 := by omega
 have HQ := hide hq
 obtain ⟨s0, s1⟩ := hs
 have GL := hide (show g < w.heap.size from row_lt h.row)
 have YL := hide (fun b (hb : y.at b) => (h.own.lo hb).2)
 have H0 := hide ((h.later (below_new w (Obj.cells #[.int .i64 qr, .int .i64 qa] 57))).later (below_drew (w := (w.alloc (Obj.cells #[.int .i64 qr, .int .i64 qa] 57)))))
 have R0 := hide (row_lat (heap_alloc_last w (Obj.cells #[.int .i64 qr, .int .i64 qa] 57)) (below_drew (w := (w.alloc (Obj.cells #[.int .i64 qr, .int .i64 qa] 57)))))
 have BB := hide ((below_new w (Obj.cells #[.int .i64 qr, .int .i64 qa] 57)).trans ((below_drew (w := (w.alloc (Obj.cells #[.int .i64 qr, .int .i64 qa] 57)))).mono (by simp)))
 have LD := hide (fun v (r : RdM v y t.d) => loadS_any y t.d qr qa v (h.small hk) r)
 rw [hq] at LD
 have DB := hk.ldb qr qa
 have DK := hide hk
 unfold OnIs Ms.one
 generalize t.d.ldV qr qa = D at LD DB ⊢
 clear h hk hq
 obtain ⟨d0, d1⟩ := DB
 go_enter Tryz.func35, Tryz.ntmps35
 go_wp2_with fail
 refine wp_region_held_drew (S := fun v => v.heap[g]? = some (.cells y.cs 26 (0, 0)) ∧ v.heap[w.heap.size]? = some (.cells #[.int .i64 qr, .int .i64 qa] 57 (0, 0))) (by kernel_rfl) ⟨(uh H0).row, uh R0⟩ (fun hS => ?_)
 have HS := hide hS
 clear hS
 generalize (w.alloc (Obj.cells #[.int .i64 qr, .int .i64 qa] 57)).drew = wd at H0 R0 BB HS ⊢
 refine tkB 0 (.pointer (some ⟨g, 0, none⟩)) rfl (uh HS) ?_
 go_simp
 refine tkB 1 (.pointer (some ⟨g, 0, none⟩)) rfl (uh HS) ?_
 go_simp
 refine tkA 2 (.agg y.cs) rfl (yields_load rfl 26 _ rfl g rfl 26 y.cs _ (fun w h => h.1) Tryz.underlying26 rfl (by kernel_rfl)) (uh HS) ?_
 go_simp
 refine tkA 3 (.agg #[.int .i64 qr, .int .i64 qa]) rfl (yields_load rfl 57 _ rfl w.heap.size rfl 57 #[.int .i64 qr, .int .i64 qa] _ (fun w h => h.2) Tryz.underlying57 rfl (by kernel_rfl)) (uh HS) ?_
 go_simp
 refine wpAnyH_ready (rs := [4]) (by kernel_rfl) (by simp) ?_
 refine AllReadyH.cons rfl (fun K2 hK => ?_) (AllReadyH.nil)
 go_simp
 have P := hide (uh LD wd (uh H0).own.rd)
 refine (uh P).mono ?_
 rintro e w2 ⟨rfl, hb⟩
 have H2 := hide ((uh H0).later hb)
 have WD := hide (show w.heap.size < wd.heap.size from row_lt (uh R0))
 have B2 := hide ((uh BB).trans (hb.mono (by have := uh WD; omega)))
 have R2 := hide (row_lat (uh R0) hb)
 refine hK.out _ _ ⟨(uh H2).row, uh R2⟩ (fun hS => ?_)
 clear HS
 have HS := hide hS
 clear hS hK K2 hb P LD H0 R0 BB
 refine tkB 5 (.tuple #[.int .i64 D, .bool true]) rfl (uh HS) ?_
 go_simp
 refine tkB 6 (.int .i64 D) rfl (uh HS) ?_
 go_simp
 refine tkB 7 (.bool true) rfl (uh HS) ?_
 go_simp
 refine tkB 8 (.int .i64 D) rfl (uh HS) ?_
 go_simp
 refine tkB 9 (.bool true) rfl (uh HS) ?_
 go_simp
 refine wpAnyH_done (by kernel_rfl) ?_ _
 clear HS
 have NZ := hide (nz_any B g y t st D false w2 (uh H2))
 go_wp2_with fail
 refine (uh NZ).mono ?_
 rintro e w3 ⟨rfl, h3, f3⟩
 have H3 := hide h3
 have F3 := hide ((Fm.of (uh B2)).trans f3)
 have R3 := hide (f3.row (uh R2) (by have := uh GL; omega) (fun e => by have := uh YL _ e; omega))
 clear h3 f3 NZ H2 B2 R2
 have c5 := row_c (uh H3).row
 have f5 := row_fz (uh H3).row 5
 obtain ⟨h4, f4⟩ := (uh H3).setC (false)
 have H4 := hide h4
 have F4 := hide ((uh F3).trans f4)
 have R4 := hide (f4.row (uh R3) (by have := uh GL; omega) (fun e => by have := uh YL _ e; omega))
 clear h4 f4
 go_wp2
 go_ret
 exact ⟨rfl, _, fun _ => uh H4, uh F4⟩
theorem one_12 (B g : Nat) (y : Mv) (t : Ms) (st qr qa : Int) (w : World) (h : Sm w B g y t st) (hk : Dk t.d) (hq : t.d.ldB qr qa = true) : OnIs B g y t (t.one 12 qr qa) st 12 qr qa true w := by
 have hs : (0 : Int) ≤ 0 ∧ (0 : Int) ≤ 65535 := by omega
 have HQ := hide hq
 obtain ⟨s0, s1⟩ := hs
 have GL := hide (show g < w.heap.size from row_lt h.row)
 have YL := hide (fun b (hb : y.at b) => (h.own.lo hb).2)
 have H0 := hide ((h.later (below_new w (Obj.cells #[.int .i64 qr, .int .i64 qa] 57))).later (below_drew (w := (w.alloc (Obj.cells #[.int .i64 qr, .int .i64 qa] 57)))))
 have R0 := hide (row_lat (heap_alloc_last w (Obj.cells #[.int .i64 qr, .int .i64 qa] 57)) (below_drew (w := (w.alloc (Obj.cells #[.int .i64 qr, .int .i64 qa] 57)))))
 have BB := hide ((below_new w (Obj.cells #[.int .i64 qr, .int .i64 qa] 57)).trans ((below_drew (w := (w.alloc (Obj.cells #[.int .i64 qr, .int .i64 qa] 57)))).mono (by simp)))
 have LD := hide (fun v (r : RdM v y t.d) => loadS_any y t.d qr qa v (h.small hk) r)
 rw [hq] at LD
 have DB := hk.ldb qr qa
 have DK := hide hk
 unfold OnIs Ms.one
 generalize t.d.ldV qr qa = D at LD DB ⊢
 clear h hk hq
 obtain ⟨d0, d1⟩ := DB
 go_enter Tryz.func35, Tryz.ntmps35
 go_wp2_with fail
 refine wp_region_held_drew (S := fun v => v.heap[g]? = some (.cells y.cs 26 (0, 0)) ∧ v.heap[w.heap.size]? = some (.cells #[.int .i64 qr, .int .i64 qa] 57 (0, 0))) (by kernel_rfl) ⟨(uh H0).row, uh R0⟩ (fun hS => ?_)
 have HS := hide hS
 clear hS
 generalize (w.alloc (Obj.cells #[.int .i64 qr, .int .i64 qa] 57)).drew = wd at H0 R0 BB HS ⊢
 refine tkB 0 (.pointer (some ⟨g, 0, none⟩)) rfl (uh HS) ?_
 go_simp
 refine tkB 1 (.pointer (some ⟨g, 0, none⟩)) rfl (uh HS) ?_
 go_simp
 refine tkA 2 (.agg y.cs) rfl (yields_load rfl 26 _ rfl g rfl 26 y.cs _ (fun w h => h.1) Tryz.underlying26 rfl (by kernel_rfl)) (uh HS) ?_
 go_simp
 refine tkA 3 (.agg #[.int .i64 qr, .int .i64 qa]) rfl (yields_load rfl 57 _ rfl w.heap.size rfl 57 #[.int .i64 qr, .int .i64 qa] _ (fun w h => h.2) Tryz.underlying57 rfl (by kernel_rfl)) (uh HS) ?_
 go_simp
 refine wpAnyH_ready (rs := [4]) (by kernel_rfl) (by simp) ?_
 refine AllReadyH.cons rfl (fun K2 hK => ?_) (AllReadyH.nil)
 go_simp
 have P := hide (uh LD wd (uh H0).own.rd)
 refine (uh P).mono ?_
 rintro e w2 ⟨rfl, hb⟩
 have H2 := hide ((uh H0).later hb)
 have WD := hide (show w.heap.size < wd.heap.size from row_lt (uh R0))
 have B2 := hide ((uh BB).trans (hb.mono (by have := uh WD; omega)))
 have R2 := hide (row_lat (uh R0) hb)
 refine hK.out _ _ ⟨(uh H2).row, uh R2⟩ (fun hS => ?_)
 clear HS
 have HS := hide hS
 clear hS hK K2 hb P LD H0 R0 BB
 refine tkB 5 (.tuple #[.int .i64 D, .bool true]) rfl (uh HS) ?_
 go_simp
 refine tkB 6 (.int .i64 D) rfl (uh HS) ?_
 go_simp
 refine tkB 7 (.bool true) rfl (uh HS) ?_
 go_simp
 refine tkB 8 (.int .i64 D) rfl (uh HS) ?_
 go_simp
 refine tkB 9 (.bool true) rfl (uh HS) ?_
 go_simp
 refine wpAnyH_done (by kernel_rfl) ?_ _
 clear HS
 have SH := hide (shift_any B g y t st D qr qa 12 (by omega) w2 (uh H2) (uh DK) ⟨d0, d1⟩)
 unfold ShIs at SH
 rw [uh HQ] at SH
 go_wp2_with (refine wpList_load_row rfl 57 _ rfl w.heap.size rfl 57 #[.int .i64 qr, .int .i64 qa] (0, 0) _ (uh R2) Tryz.underlying57 rfl (by kernel_rfl) ?_)
 refine (uh SH).mono ?_
 rintro e w7 ⟨rfl, y7, h7, f7⟩
 have H7 := hide h7
 have F7 := hide ((Fm.of (uh B2)).trans f7)
 clear h7 f7 SH
 go_wp2
 go_ret
 exact ⟨rfl, y7, fun _ => uh H7, uh F7⟩
theorem one_13 (B g : Nat) (y : Mv) (t : Ms) (st qr qa : Int) (w : World) (h : Sm w B g y t st) (hk : Dk t.d) (hq : t.d.ldB qr qa = true) : OnIs B g y t (t.one 13 qr qa) st 13 qr qa true w := by
 have hs : (0 : Int) ≤ 0 ∧ (0 : Int) ≤ 65535 := by omega
 have HQ := hide hq
 obtain ⟨s0, s1⟩ := hs
 have GL := hide (show g < w.heap.size from row_lt h.row)
 have YL := hide (fun b (hb : y.at b) => (h.own.lo hb).2)
 have H0 := hide ((h.later (below_new w (Obj.cells #[.int .i64 qr, .int .i64 qa] 57))).later (below_drew (w := (w.alloc (Obj.cells #[.int .i64 qr, .int .i64 qa] 57)))))
 have R0 := hide (row_lat (heap_alloc_last w (Obj.cells #[.int .i64 qr, .int .i64 qa] 57)) (below_drew (w := (w.alloc (Obj.cells #[.int .i64 qr, .int .i64 qa] 57)))))
 have BB := hide ((below_new w (Obj.cells #[.int .i64 qr, .int .i64 qa] 57)).trans ((below_drew (w := (w.alloc (Obj.cells #[.int .i64 qr, .int .i64 qa] 57)))).mono (by simp)))
 have LD := hide (fun v (r : RdM v y t.d) => loadS_any y t.d qr qa v (h.small hk) r)
 rw [hq] at LD
 have DB := hk.ldb qr qa
 have DK := hide hk
 unfold OnIs Ms.one
 generalize t.d.ldV qr qa = D at LD DB ⊢
 clear h hk hq
 obtain ⟨d0, d1⟩ := DB
 go_enter Tryz.func35, Tryz.ntmps35
 go_wp2_with fail
 refine wp_region_held_drew (S := fun v => v.heap[g]? = some (.cells y.cs 26 (0, 0)) ∧ v.heap[w.heap.size]? = some (.cells #[.int .i64 qr, .int .i64 qa] 57 (0, 0))) (by kernel_rfl) ⟨(uh H0).row, uh R0⟩ (fun hS => ?_)
 have HS := hide hS
 clear hS
 generalize (w.alloc (Obj.cells #[.int .i64 qr, .int .i64 qa] 57)).drew = wd at H0 R0 BB HS ⊢
 refine tkB 0 (.pointer (some ⟨g, 0, none⟩)) rfl (uh HS) ?_
 go_simp
 refine tkB 1 (.pointer (some ⟨g, 0, none⟩)) rfl (uh HS) ?_
 go_simp
 refine tkA 2 (.agg y.cs) rfl (yields_load rfl 26 _ rfl g rfl 26 y.cs _ (fun w h => h.1) Tryz.underlying26 rfl (by kernel_rfl)) (uh HS) ?_
 go_simp
 refine tkA 3 (.agg #[.int .i64 qr, .int .i64 qa]) rfl (yields_load rfl 57 _ rfl w.heap.size rfl 57 #[.int .i64 qr, .int .i64 qa] _ (fun w h => h.2) Tryz.underlying57 rfl (by kernel_rfl)) (uh HS) ?_
 go_simp
 refine wpAnyH_ready (rs := [4]) (by kernel_rfl) (by simp) ?_
 refine AllReadyH.cons rfl (fun K2 hK => ?_) (AllReadyH.nil)
 go_simp
 have P := hide (uh LD wd (uh H0).own.rd)
 refine (uh P).mono ?_
 rintro e w2 ⟨rfl, hb⟩
 have H2 := hide ((uh H0).later hb)
 have WD := hide (show w.heap.size < wd.heap.size from row_lt (uh R0))
 have B2 := hide ((uh BB).trans (hb.mono (by have := uh WD; omega)))
 have R2 := hide (row_lat (uh R0) hb)
 refine hK.out _ _ ⟨(uh H2).row, uh R2⟩ (fun hS => ?_)
 clear HS
 have HS := hide hS
 clear hS hK K2 hb P LD H0 R0 BB
 refine tkB 5 (.tuple #[.int .i64 D, .bool true]) rfl (uh HS) ?_
 go_simp
 refine tkB 6 (.int .i64 D) rfl (uh HS) ?_
 go_simp
 refine tkB 7 (.bool true) rfl (uh HS) ?_
 go_simp
 refine tkB 8 (.int .i64 D) rfl (uh HS) ?_
 go_simp
 refine tkB 9 (.bool true) rfl (uh HS) ?_
 go_simp
 refine wpAnyH_done (by kernel_rfl) ?_ _
 clear HS
 have SH := hide (shift_any B g y t st D qr qa 13 (by omega) w2 (uh H2) (uh DK) ⟨d0, d1⟩)
 unfold ShIs at SH
 rw [uh HQ] at SH
 go_wp2_with (refine wpList_load_row rfl 57 _ rfl w.heap.size rfl 57 #[.int .i64 qr, .int .i64 qa] (0, 0) _ (uh R2) Tryz.underlying57 rfl (by kernel_rfl) ?_)
 refine (uh SH).mono ?_
 rintro e w7 ⟨rfl, y7, h7, f7⟩
 have H7 := hide h7
 have F7 := hide ((Fm.of (uh B2)).trans f7)
 clear h7 f7 SH
 go_wp2
 go_ret
 exact ⟨rfl, y7, fun _ => uh H7, uh F7⟩
theorem one_any (B g : Nat) (y : Mv) (t : Ms) (st qr qa : Int) (op : Nat) (ho : 7 ≤ op ∧ op ≤ 13) (w : World) (h : Sm w B g y t st) (hk : Dk t.d) : OnIs B g y t (t.one op qr qa) st op qr qa (t.d.ldB qr qa) w := by
 obtain ⟨q, hq⟩ : ∃ q, t.d.ldB qr qa = q := ⟨_, rfl⟩
 rw [hq]
 cases q
 · exact one_n B g y t st qr qa w op _ h hk hq
 ·
  have e : op = 7 ∨ op = 8 ∨ op = 9 ∨ op = 10 ∨ op = 11 ∨ op = 12 ∨ op = 13 := by omega
  rcases e with rfl | rfl | rfl | rfl | rfl | rfl | rfl
  · exact one_7 B g y t st qr qa w h hk hq
  · exact one_8 B g y t st qr qa w h hk hq
  · exact one_9 B g y t st qr qa w h hk hq
  · exact one_10 B g y t st qr qa w h hk hq
  · exact one_11 B g y t st qr qa w h hk hq
  · exact one_12 B g y t st qr qa w h hk hq
  · exact one_13 B g y t st qr qa w h hk hq
section
section
variable {P : Program} {ops : Array Oper} {Q : Exit → Act → World → Prop} {md : Region.Mode} {S : World → Prop} {last : Nat}
def wpAnyL (P : Program) (md : Region.Mode) (ops : Array Oper) (Q : Exit → Act → World → Prop) (S : World → Prop) (last : Nat) : Nat → Array Bool → Act → World → Prop
 | 0, listed, a, w => Region.ready md ops listed = [] ∧ Q .normal a w
 | fuel + 1, listed, a, w =>
  (Region.ready md ops listed = [] → Q .normal a w) ∧
  ∀ i ∈ Region.ready md ops listed, wpOp P ops Q i (fun a' w' => ((listed.setIfInBounds i true).getD last true = false → S w') ∧ wpAnyL P md ops Q S last fuel (listed.setIfInBounds i true) a' w') a w
theorem wpAny_of_last : ∀ (fuel : Nat) (listed : Array Bool) (a : Act) (w : World), wpAnyL P md ops Q S last fuel listed a w → wpAny P md ops Q fuel listed a w
 | 0, _, _, _, h => h
 | fuel + 1, _, _, _, h => ⟨h.1, fun i hi => wpOp_mono (fun a' w' h' => wpAny_of_last fuel _ a' w' h'.2) (h.2 i hi)⟩
def lastB (md : Region.Mode) (ops : Array Oper) (last i : Nat) : Bool := ((ops[last]?).map fun o => o.after.any fun e => Region.binds md e && e.on == i).getD false
theorem lastB_spec {i : Nat} (h : lastB md ops last i = true) : ∀ ol, ops[last]? = some ol → ∃ e ∈ ol.after, Region.binds md e = true ∧ e.on = i := by
 intro ol ho
 unfold lastB at h
 rw [ho] at h
 simp only [Option.map_some, Option.getD_some] at h
 obtain ⟨e, he, hb⟩ := Array.any_eq_true'.1 h
 simp only [Bool.and_eq_true, beq_iff_eq] at hb
 exact ⟨e, he, hb.1, hb.2⟩
theorem wpAnyL_firstS {i : Nat} {oi : Oper} {v : Value} (hi : ops[i]? = some oi) (hsel : ∀ (j : Nat) (o : Oper) cs b, ops[j]? = some o → o.op ≠ .select cs b)
  (hQ : ∀ c a w, Q (.panic c) (a.put oi.dst v) w → Q (.panic c) a w) (hil : i ≠ last) (hl : ∀ ol, ops[last]? = some ol → ∃ e ∈ ol.after, Region.binds md e = true ∧ e.on = i) :
  ∀ (fuel : Nat) (listed : Array Bool) (a : Act) (w : World),
   (∀ j oj, ops[j]? = some oj → j ≠ i → listed.getD j true = false → (∀ e ∈ oj.after, Region.binds md e = true → e.on ≠ i) → oi.apart ops oj = true) →
   i ∈ Region.ready md ops listed → YieldsIf P ops S oi v a → S w → listed.getD last true = false →
   wpAnyL P md ops Q S last fuel (listed.setIfInBounds i true) (a.put oi.dst v) w → wpAnyL P md ops Q S last (fuel + 1) listed a w := by
 intro fuel
 induction fuel with
 | zero =>
  intro listed a w _ hr hy hS hp H
  refine ⟨fun h => (by rw [h] at hr; cases hr), fun j hj => ?_⟩
  by_cases hji : j = i
  · subst hji; exact hy.wpOp hi hS ⟨fun _ => hS, H⟩
  ·
   have := ready_mono hj hji
   rw [H.1] at this
   cases this
 | succ fuel ih =>
  intro listed a w hfree hr hy hS hp H
  refine ⟨fun h => (by rw [h] at hr; cases hr), fun j hj => ?_⟩
  by_cases hji : j = i
  · subst hji; exact hy.wpOp hi hS ⟨fun _ => hS, H⟩
  ·
   have h1 := H.2 j (ready_mono hj hji)
   obtain ⟨hjun, oj, hoj, hall⟩ := mem_ready.1 hj
   have hnot : ∀ e ∈ oj.after, Region.binds md e = true → e.on ≠ i := fun e he hb heq => by
    have h1 := hall e he hb
    have h0 := (mem_ready.1 hr).1
    rw [heq] at h1
    rcases Nat.lt_or_ge i listed.size with h' | h'
    · simp [h'] at h0 h1; rw [h0] at h1; cases h1
    · simp [Array.getElem?_eq_none h'] at h1
   have hjl : j ≠ last := fun e => by
    subst e
    obtain ⟨e, he, hb, ho⟩ := hl oj hoj
    exact hnot e he hb ho
   have h2 := wpOp_putIf hoj (hfree j oj hoj hji hjun hnot) (fun cs b => hsel i oi cs b hi) (fun cs b => hsel j oj cs b hoj) hQ hy h1
   have hfree' : ∀ k ok, ops[k]? = some ok → k ≠ i → (listed.setIfInBounds j true).getD k true = false →
     (∀ e ∈ ok.after, Region.binds md e = true → e.on ≠ i) → oi.apart ops ok = true := fun k ok hk hki hun hno => by
    refine hfree k ok hk hki ?_ hno
    by_cases hjk : j = k
    · subst hjk; exact hjun
    · rw [getD_set_ne true hjk] at hun; exact hun
   have hp' : (listed.setIfInBounds j true).getD last true = false := by rw [getD_set_ne true hjl]; exact hp
   have hp2 : ((listed.setIfInBounds i true).setIfInBounds j true).getD last true = false := by rw [getD_set_ne true hjl, getD_set_ne true hil]; exact hp
   refine wpOp_mono (fun a' w' h3 => ⟨fun _ => h3.2.1 hp2, ih (listed.setIfInBounds j true) a' w' hfree' (ready_mono hr (Ne.symm hji)) h3.1 (h3.2.1 hp2) hp' ?_⟩) h2
   rw [Array.setIfInBounds_comm _ _ hji]
   exact h3.2.2
theorem wpAnyL_firstW {i : Nat} {oi : Oper} {v : Value} (hi : ops[i]? = some oi) (hsel : ∀ (j : Nat) (o : Oper) cs b, ops[j]? = some o → o.op ≠ .select cs b)
  (hQ : ∀ c a w, Q (.panic c) (a.put oi.dst v) w → Q (.panic c) a w) (hil : i ≠ last) :
  ∀ (fuel : Nat) (listed : Array Bool) (a : Act) (w : World),
   (∀ j oj, ops[j]? = some oj → j ≠ i → listed.getD j true = false → (∀ e ∈ oj.after, Region.binds md e = true → e.on ≠ i) → oi.apart ops oj = true) →
   i ∈ Region.ready md ops listed → YieldsIf P ops (fun _ => True) oi v a → (listed.getD last true = false → S w) →
   wpAnyL P md ops Q S last fuel (listed.setIfInBounds i true) (a.put oi.dst v) w → wpAnyL P md ops Q S last (fuel + 1) listed a w := by
 intro fuel
 induction fuel with
 | zero =>
  intro listed a w _ hr hy hS H
  refine ⟨fun h => (by rw [h] at hr; cases hr), fun j hj => ?_⟩
  by_cases hji : j = i
  · subst hji; exact hy.wpOp hi trivial ⟨fun h => hS (by rw [getD_set_ne true hil] at h; exact h), H⟩
  ·
   have := ready_mono hj hji
   rw [H.1] at this
   cases this
 | succ fuel ih =>
  intro listed a w hfree hr hy hS H
  refine ⟨fun h => (by rw [h] at hr; cases hr), fun j hj => ?_⟩
  by_cases hji : j = i
  · subst hji; exact hy.wpOp hi trivial ⟨fun h => hS (by rw [getD_set_ne true hil] at h; exact h), H⟩
  ·
   have h1 := H.2 j (ready_mono hj hji)
   obtain ⟨hjun, oj, hoj, hall⟩ := mem_ready.1 hj
   have hnot : ∀ e ∈ oj.after, Region.binds md e = true → e.on ≠ i := fun e he hb heq => by
    have h1 := hall e he hb
    have h0 := (mem_ready.1 hr).1
    rw [heq] at h1
    rcases Nat.lt_or_ge i listed.size with h' | h'
    · simp [h'] at h0 h1; rw [h0] at h1; cases h1
    · simp [Array.getElem?_eq_none h'] at h1
   have h2 := wpOp_putIf hoj (hfree j oj hoj hji hjun hnot) (fun cs b => hsel i oi cs b hi) (fun cs b => hsel j oj cs b hoj) hQ hy h1
   have hfree' : ∀ k ok, ops[k]? = some ok → k ≠ i → (listed.setIfInBounds j true).getD k true = false →
     (∀ e ∈ ok.after, Region.binds md e = true → e.on ≠ i) → oi.apart ops ok = true := fun k ok hk hki hun hno => by
    refine hfree k ok hk hki ?_ hno
    by_cases hjk : j = k
    · subst hjk; exact hjun
    · rw [getD_set_ne true hjk] at hun; exact hun
   have hs2 : ∀ w', ((((listed.setIfInBounds i true).setIfInBounds j true).getD last true = false) → S w') → ((listed.setIfInBounds j true).getD last true = false → S w') := fun w' h hp => h (by
    rw [Array.setIfInBounds_comm _ _ (Ne.symm hji), getD_set_ne true hil]; exact hp)
   refine wpOp_mono (fun a' w' h3 => ⟨hs2 w' h3.2.1, ih (listed.setIfInBounds j true) a' w' hfree' (ready_mono hr (Ne.symm hji)) h3.1 (hs2 w' h3.2.1) ?_⟩) h2
   rw [Array.setIfInBounds_comm _ _ hji]
   exact h3.2.2
theorem wpAnyL_takeS {i : Nat} {oi : Oper} {v : Value} {fuel : Nat} {listed : Array Bool} {a : Act} {w : World} (hi : ops[i]? = some oi)
  (hs : Region.noSelect ops = true) (hf : Region.free md ops listed i = true) (hr : (Region.ready md ops listed).contains i = true) (hb : lastB md ops last i = true) (hl : (decide (i ≠ last) && !listed.getD last true) = true)
  (hQ : ∀ c a w, Q (.panic c) (a.put oi.dst v) w → Q (.panic c) a w) (hy : YieldsIf P ops S oi v a) (hS : S w)
  (h : wpAnyL P md ops Q S last fuel (listed.setIfInBounds i true) (a.put oi.dst v) w) : wpAnyL P md ops Q S last (fuel + 1) listed a w := by
 simp only [Bool.and_eq_true, decide_eq_true_eq, Bool.not_eq_true'] at hl
 exact wpAnyL_firstS hi (Region.noSelect_spec hs) hQ hl.1 (lastB_spec hb) fuel listed a w (Region.free_spec hi hf) (by simpa using hr) hy hS hl.2 h
theorem wpAnyL_takeW {i : Nat} {oi : Oper} {v : Value} {fuel : Nat} {listed : Array Bool} {a : Act} {w : World} (hi : ops[i]? = some oi)
  (hs : Region.noSelect ops = true) (hf : Region.free md ops listed i = true) (hr : (Region.ready md ops listed).contains i = true) (hl : decide (i ≠ last) = true)
  (hQ : ∀ c a w, Q (.panic c) (a.put oi.dst v) w → Q (.panic c) a w) (hy : YieldsIf P ops (fun _ => True) oi v a) (hS : S w ∨ listed.getD last true = true)
  (h : wpAnyL P md ops Q S last fuel (listed.setIfInBounds i true) (a.put oi.dst v) w) : wpAnyL P md ops Q S last (fuel + 1) listed a w :=
 wpAnyL_firstW hi (Region.noSelect_spec hs) hQ (by simpa using hl) fuel listed a w (Region.free_spec hi hf) (by simpa using hr) hy (fun hp => hS.elim id (fun e => by rw [e] at hp; cases hp)) h
def waitB (md : Region.Mode) (ops : Array Oper) (i : Nat) : Nat → Nat → Bool
 | 0, _ => false
 | n + 1, a => ((ops[a]?).map fun o => o.after.any fun e => Region.binds md e && (e.on == i || waitB md ops i n e.on)).getD false
def closedB (md : Region.Mode) (ops : Array Oper) (listed : Array Bool) : Bool := (List.range ops.size).all fun j => !listed.getD j false || ((ops[j]?).map fun o => o.after.all fun e => !Region.binds md e || listed.getD e.on false).getD true
def Closed (md : Region.Mode) (ops : Array Oper) (listed : Array Bool) : Prop := ∀ j o, ops[j]? = some o → listed.getD j false = true → ∀ e ∈ o.after, Region.binds md e = true → listed.getD e.on false = true
theorem closed_of {listed : Array Bool} (h : closedB md ops listed = true) : Closed md ops listed := by
 intro j o ho hj e he hb
 unfold closedB at h
 rw [List.all_eq_true] at h
 have q := h j (List.mem_range.2 (Array.getElem?_eq_some_iff.1 ho).1)
 rw [hj, ho] at q
 simp only [Bool.not_true, Bool.false_or, Option.map_some, Option.getD_some] at q
 have r := Array.all_eq_true_iff_forall_mem.1 q e he
 rw [hb] at r
 simpa using r
theorem wait_listed {listed : Array Bool} (hc : Closed md ops listed) {i : Nat} : ∀ (n a : Nat) (o : Oper), waitB md ops i n a = true → ops[a]? = some o → (∀ e ∈ o.after, Region.binds md e = true → listed.getD e.on false = true) → listed.getD i false = true
 | 0, _, _, h, _, _ => by simp [waitB] at h
 | n + 1, a, o, h, ho, hd => by
  unfold waitB at h
  rw [ho] at h
  simp only [Option.map_some, Option.getD_some] at h
  obtain ⟨e, he, hb⟩ := Array.any_eq_true'.1 h
  simp only [Bool.and_eq_true, Bool.or_eq_true, beq_iff_eq] at hb
  have l := hd e he hb.1
  rcases hb.2 with h1 | h1
  · rw [← h1]; exact l
  ·
   cases ho2 : ops[e.on]? with
   | none => cases n <;> simp [waitB, ho2] at h1
   | some o2 => exact wait_listed hc n e.on o2 h1 ho2 (hc e.on o2 ho2 l)
theorem Closed.step {listed : Array Bool} (h : Closed md ops listed) {j : Nat} (hj : j ∈ Region.ready md ops listed) : Closed md ops (listed.setIfInBounds j true) := by
 intro k o ho hk e he hb
 obtain ⟨hjun, oj, hoj, hall⟩ := mem_ready.1 hj
 have key : listed.getD e.on false = true := by
  by_cases hkj : k = j
  ·
   subst hkj
   rw [hoj] at ho
   cases ho
   exact hall e he hb
  ·
   refine h k o ho ?_ e he hb
   simp only [Array.getD_eq_getD_getElem?] at hk ⊢
   rw [Array.getElem?_setIfInBounds_ne (fun c => hkj c.symm)] at hk
   exact hk
 by_cases hej : e.on = j
 ·
  rw [hej]
  have hlt : j < listed.size := by
   rcases Nat.lt_or_ge j listed.size with h' | h'
   · exact h'
   ·
    rw [← hej] at h'
    simp [Array.getElem?_eq_none h'] at key
  simp [hlt]
 ·
  simp only [Array.getD_eq_getD_getElem?] at key ⊢
  rw [Array.getElem?_setIfInBounds_ne (fun c => hej c.symm)]
  exact key
theorem wpAnyL_firstT {i : Nat} {oi : Oper} {v : Value} (hi : ops[i]? = some oi) (hsel : ∀ (j : Nat) (o : Oper) cs b, ops[j]? = some o → o.op ≠ .select cs b)
  (hQ : ∀ c a w, Q (.panic c) (a.put oi.dst v) w → Q (.panic c) a w) (hil : i ≠ last) (n : Nat) (hl : waitB md ops i n last = true) :
  ∀ (fuel : Nat) (listed : Array Bool) (a : Act) (w : World),
   (∀ j oj, ops[j]? = some oj → j ≠ i → listed.getD j true = false → (∀ e ∈ oj.after, Region.binds md e = true → e.on ≠ i) → oi.apart ops oj = true) →
   i ∈ Region.ready md ops listed → YieldsIf P ops S oi v a → S w → listed.getD last true = false → Closed md ops listed →
   wpAnyL P md ops Q S last fuel (listed.setIfInBounds i true) (a.put oi.dst v) w → wpAnyL P md ops Q S last (fuel + 1) listed a w := by
 intro fuel
 induction fuel with
 | zero =>
  intro listed a w _ hr hy hS hp hcl H
  refine ⟨fun h => (by rw [h] at hr; cases hr), fun j hj => ?_⟩
  by_cases hji : j = i
  · subst hji; exact hy.wpOp hi hS ⟨fun _ => hS, H⟩
  ·
   have := ready_mono hj hji
   rw [H.1] at this
   cases this
 | succ fuel ih =>
  intro listed a w hfree hr hy hS hp hcl H
  refine ⟨fun h => (by rw [h] at hr; cases hr), fun j hj => ?_⟩
  by_cases hji : j = i
  · subst hji; exact hy.wpOp hi hS ⟨fun _ => hS, H⟩
  ·
   have h1 := H.2 j (ready_mono hj hji)
   obtain ⟨hjun, oj, hoj, hall⟩ := mem_ready.1 hj
   have hiu : listed.getD i false ≠ true := fun c => by
    have h0 := (mem_ready.1 hr).1
    rcases Nat.lt_or_ge i listed.size with h' | h'
    · simp [h'] at h0 c; rw [h0] at c; cases c
    · simp [Array.getElem?_eq_none h'] at c
   have hnot : ∀ e ∈ oj.after, Region.binds md e = true → e.on ≠ i := fun e he hb heq => hiu (by rw [← heq]; exact hall e he hb)
   have hjl : j ≠ last := fun e => by
    subst e
    exact hiu (wait_listed hcl n j oj hl hoj hall)
   have h2 := wpOp_putIf hoj (hfree j oj hoj hji hjun hnot) (fun cs b => hsel i oi cs b hi) (fun cs b => hsel j oj cs b hoj) hQ hy h1
   have hfree' : ∀ k ok, ops[k]? = some ok → k ≠ i → (listed.setIfInBounds j true).getD k true = false →
     (∀ e ∈ ok.after, Region.binds md e = true → e.on ≠ i) → oi.apart ops ok = true := fun k ok hk hki hun hno => by
    refine hfree k ok hk hki ?_ hno
    by_cases hjk : j = k
    · subst hjk; exact hjun
    · rw [getD_set_ne true hjk] at hun; exact hun
   have hp' : (listed.setIfInBounds j true).getD last true = false := by rw [getD_set_ne true hjl]; exact hp
   have hp2 : ((listed.setIfInBounds i true).setIfInBounds j true).getD last true = false := by rw [getD_set_ne true hjl, getD_set_ne true hil]; exact hp
   refine wpOp_mono (fun a' w' h3 => ⟨fun _ => h3.2.1 hp2, ih (listed.setIfInBounds j true) a' w' hfree' (ready_mono hr (Ne.symm hji)) h3.1 (h3.2.1 hp2) hp' (hcl.step hj) ?_⟩) h2
   rw [Array.setIfInBounds_comm _ _ hji]
   exact h3.2.2
def chkT (md : Region.Mode) (ops : Array Oper) (last i : Nat) (listed : Array Bool) : Bool := Region.noSelect ops && (Region.free md ops listed i && ((Region.ready md ops listed).contains i && (waitB md ops i ops.size last && (decide (i ≠ last) && (!listed.getD last true && closedB md ops listed)))))
theorem tkT {i : Nat} {oi : Oper} {v : Value} {fuel : Nat} {listed : Array Bool} {a : Act} {w : World} (hi : ops[i]? = some oi) (hc : chkT md ops last i listed = true)
  (hQ : ∀ c a w, Q (.panic c) (a.put oi.dst v) w → Q (.panic c) a w) (hy : YieldsIf P ops S oi v a) (hS : S w)
  (h : wpAnyL P md ops Q S last fuel (listed.setIfInBounds i true) (a.put oi.dst v) w) : wpAnyL P md ops Q S last (fuel + 1) listed a w := by
 unfold chkT at hc
 simp only [Bool.and_eq_true, decide_eq_true_eq, Bool.not_eq_true'] at hc
 obtain ⟨hs, hf, hr, hb, hl, hp, hcl⟩ := hc
 exact wpAnyL_firstT hi (Region.noSelect_spec hs) hQ hl ops.size hb fuel listed a w (Region.free_spec hi hf) (by simpa using hr) hy hS hp (closed_of hcl) h
def chkW (md : Region.Mode) (ops : Array Oper) (last i : Nat) (listed : Array Bool) : Bool := Region.noSelect ops && (Region.free md ops listed i && ((Region.ready md ops listed).contains i && decide (i ≠ last)))
theorem tkW {i : Nat} {oi : Oper} {v : Value} {fuel : Nat} {listed : Array Bool} {a : Act} {w : World} (hi : ops[i]? = some oi) (hc : chkW md ops last i listed = true)
  (hQ : ∀ c a w, Q (.panic c) (a.put oi.dst v) w → Q (.panic c) a w) (hy : YieldsIf P ops (fun _ => True) oi v a) (hS : S w ∨ listed.getD last true = true)
  (h : wpAnyL P md ops Q S last fuel (listed.setIfInBounds i true) (a.put oi.dst v) w) : wpAnyL P md ops Q S last (fuel + 1) listed a w := by
 unfold chkW at hc
 simp only [Bool.and_eq_true, decide_eq_true_eq] at hc
 exact wpAnyL_takeW hi hc.1 hc.2.1 hc.2.2.1 (by simpa using hc.2.2.2) hQ hy hS h
theorem wpAnyL_one {i : Nat} {o : Oper} {fuel : Nat} {listed : Array Bool} {a : Act} {w : World} (hr : Region.ready md ops listed = [i]) (ho : ops[i]? = some o)
  (h : ∀ K' : Act → World → Prop, Shut (∀ a w, ((listed.setIfInBounds i true).getD last true = false → S w) → wpAnyL P md ops Q S last fuel (listed.setIfInBounds i true) a w → K' a w) → if Region.wanted o (yielded ops a.tmps) = true then Oper.wp P o a w K' Q else K' (a.put o.dst undef) w) :
  wpAnyL P md ops Q S last (fuel + 1) listed a w := by
 refine ⟨fun h0 => (by rw [hr] at h0; cases h0), fun j hj => ?_⟩
 rw [hr] at hj
 obtain rfl : j = i := by simpa using hj
 exact wpOp_step ho (fun K' hK => h K' (fun a w hS hW => hK a w ⟨hS, hW⟩))
theorem wpAnyL_done {listed : Array Bool} {a : Act} {w : World} (hr : Region.ready md ops listed = []) (h : Q .normal a w) : ∀ fuel, wpAnyL P md ops Q S last fuel listed a w
 | 0 => ⟨hr, h⟩
 | _ + 1 => ⟨fun _ => h, by rw [hr]; simp⟩
theorem wp_region_last {id : Nat} {a : Act} {w : World} (S : World → Prop) (last : Nat) (hm : P.follows .mixedOrders = true) (h : wpAnyL P .any ops Q S last ops.size (Array.replicate ops.size false) a w.drew) : (Code.region id ops true).wp P Q a w :=
 wp_region_any hm (wpAny_of_last _ _ _ _ h)
end
section
variable {P : Program} {ops : Array Oper} {Q : Exit → Act → World → Prop} {md : Region.Mode} {S : World → Prop} {last : Nat} {oi : Oper} {fuel : Nat} {listed : Array Bool} {a : Act} {w : World}
theorem twA (i : Nat) (v : Value) (hi : ops[i]? = some oi) (hy : YieldsIf P ops (fun _ => True) oi v a) (hS : S w ∨ listed.getD last true = true) (h : wpAnyL P md ops Q S last fuel (listed.setIfInBounds i true) (a.put oi.dst v) w) (hs : Region.noSelect ops = true := by kernel_rfl) (hf : Region.free md ops listed i = true := by kernel_rfl) (hr : (Region.ready md ops listed).contains i = true := by kernel_rfl) (hl : decide (i ≠ last) = true := by kernel_rfl) (hQ : ∀ c a w, Q (.panic c) (a.put oi.dst v) w → Q (.panic c) a w := by exact fun _ _ _ h => h) : wpAnyL P md ops Q S last (fuel + 1) listed a w := wpAnyL_takeW hi hs hf hr hl hQ hy hS h
theorem twB (i : Nat) (v : Value) (hi : ops[i]? = some oi) (hS : S w ∨ listed.getD last true = true) (h : wpAnyL P md ops Q S last fuel (listed.setIfInBounds i true) (a.put oi.dst v) w) (hs : Region.noSelect ops = true := by kernel_rfl) (hf : Region.free md ops listed i = true := by kernel_rfl) (hr : (Region.ready md ops listed).contains i = true := by kernel_rfl) (hl : decide (i ≠ last) = true := by kernel_rfl) (hQ : ∀ c a w, Q (.panic c) (a.put oi.dst v) w → Q (.panic c) a w := by exact fun _ _ _ h => h) (hy : YieldsIf P ops (fun _ => True) oi v a := by exact .inl ⟨by rfl, fun w hc => by clear hc; go_simp⟩) : wpAnyL P md ops Q S last (fuel + 1) listed a w := wpAnyL_takeW hi hs hf hr hl hQ hy hS h
theorem tsA (i : Nat) (v : Value) (hi : ops[i]? = some oi) (hy : YieldsIf P ops S oi v a) (hS : S w) (h : wpAnyL P md ops Q S last fuel (listed.setIfInBounds i true) (a.put oi.dst v) w) (hs : Region.noSelect ops = true := by kernel_rfl) (hf : Region.free md ops listed i = true := by kernel_rfl) (hr : (Region.ready md ops listed).contains i = true := by kernel_rfl) (hb : lastB md ops last i = true := by kernel_rfl) (hl : (decide (i ≠ last) && !listed.getD last true) = true := by kernel_rfl) (hQ : ∀ c a w, Q (.panic c) (a.put oi.dst v) w → Q (.panic c) a w := by exact fun _ _ _ h => h) : wpAnyL P md ops Q S last (fuel + 1) listed a w := wpAnyL_takeS hi hs hf hr hb hl hQ hy hS h
theorem tsB (i : Nat) (v : Value) (hi : ops[i]? = some oi) (hS : S w) (h : wpAnyL P md ops Q S last fuel (listed.setIfInBounds i true) (a.put oi.dst v) w) (hs : Region.noSelect ops = true := by kernel_rfl) (hf : Region.free md ops listed i = true := by kernel_rfl) (hr : (Region.ready md ops listed).contains i = true := by kernel_rfl) (hb : lastB md ops last i = true := by kernel_rfl) (hl : (decide (i ≠ last) && !listed.getD last true) = true := by kernel_rfl) (hQ : ∀ c a w, Q (.panic c) (a.put oi.dst v) w → Q (.panic c) a w := by exact fun _ _ _ h => h) (hy : YieldsIf P ops S oi v a := by exact .inl ⟨by rfl, fun w hc => by clear hc; go_simp⟩) : wpAnyL P md ops Q S last (fuel + 1) listed a w := wpAnyL_takeS hi hs hf hr hb hl hQ hy hS h
theorem tvA (i : Nat) (v : Value) (hi : ops[i]? = some oi) (hy : YieldsIf P ops (fun _ => True) oi v a) (hS : S w ∨ listed.getD last true = true) (h : wpAnyL P md ops Q S last fuel (listed.setIfInBounds i true) (a.put oi.dst v) w) (hc : chkW md ops last i listed = true := by kernel_rfl) (hQ : ∀ c a w, Q (.panic c) (a.put oi.dst v) w → Q (.panic c) a w := by exact fun _ _ _ h => h) : wpAnyL P md ops Q S last (fuel + 1) listed a w := tkW hi hc hQ hy hS h
theorem tvB (i : Nat) (v : Value) (hi : ops[i]? = some oi) (hS : S w ∨ listed.getD last true = true) (h : wpAnyL P md ops Q S last fuel (listed.setIfInBounds i true) (a.put oi.dst v) w) (hc : chkW md ops last i listed = true := by kernel_rfl) (hQ : ∀ c a w, Q (.panic c) (a.put oi.dst v) w → Q (.panic c) a w := by exact fun _ _ _ h => h) (hy : YieldsIf P ops (fun _ => True) oi v a := by exact .inl ⟨by rfl, fun w hc => by clear hc; go_simp⟩) : wpAnyL P md ops Q S last (fuel + 1) listed a w := tkW hi hc hQ hy hS h
theorem ttA (i : Nat) (v : Value) (hi : ops[i]? = some oi) (hy : YieldsIf P ops S oi v a) (hS : S w) (h : wpAnyL P md ops Q S last fuel (listed.setIfInBounds i true) (a.put oi.dst v) w) (hc : chkT md ops last i listed = true := by kernel_rfl) (hQ : ∀ c a w, Q (.panic c) (a.put oi.dst v) w → Q (.panic c) a w := by exact fun _ _ _ h => h) : wpAnyL P md ops Q S last (fuel + 1) listed a w := tkT hi hc hQ hy hS h
theorem ttB (i : Nat) (v : Value) (hi : ops[i]? = some oi) (hS : S w) (h : wpAnyL P md ops Q S last fuel (listed.setIfInBounds i true) (a.put oi.dst v) w) (hc : chkT md ops last i listed = true := by kernel_rfl) (hQ : ∀ c a w, Q (.panic c) (a.put oi.dst v) w → Q (.panic c) a w := by exact fun _ _ _ h => h) (hy : YieldsIf P ops S oi v a := by exact .inl ⟨by rfl, fun w hc => by clear hc; go_simp⟩) : wpAnyL P md ops Q S last (fuel + 1) listed a w := tkT hi hc hQ hy hS h
end
end
end Go.Proofs.YtboedaofbchdkaaGreatDoor
