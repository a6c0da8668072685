/- Contracts over this seat's translation, laid together; conditions stand as hypotheses of each. -/
import Derived.Test.YtjpbjbnialehbaaGreatDoorBsD
import Derived.Test.YtjpbjbnialehbaaGreatDoorBsE
import Derived.OrdersHeld
import Derived.Deep.RegionHeld

namespace Go.Proofs.YtjpbjbnialehbaaGreatDoor
open Go.ChangeShapes Go.WideShapes Go.ChangeAt Go.RowKit
set_option linter.unusedVariables false
set_option maxRecDepth 8000
set_option linter.unusedSimpArgs false
/-- What an instruction of one operand makes of a machine. -/
def Ms.one (t : Ms) (op : Nat) (qr qa : Int) : Ms :=
  match op with
  | 7 => ((t.nz 0 false).cs false).st qr qa 0
  | 8 => (t.nz (t.d.ldV qr qa + 1) (t.d.ldV qr qa == 32767)).st qr qa (t.d.ldV qr qa + 1)
  | 9 => (t.nz (t.d.ldV qr qa - 1) (t.d.ldV qr qa == 32768)).st qr qa (t.d.ldV qr qa - 1)
  | 10 => ((t.nz (-t.d.ldV qr qa) (t.d.ldV qr qa == 32768)).cs (t.d.ldV qr qa != 0)).st qr qa (-t.d.ldV qr qa)
  | 11 => (t.nz (t.d.ldV qr qa) false).cs false
  | 12 => t.shift 12 (t.d.ldV qr qa) qr qa
  | _ => t.shift 13 (t.d.ldV qr qa) qr qa
def OnIs (B g : Nat) (y : Mv) (t t2 : Ms) (st op qr qa : Int) (ok : Bool) (w : World) : Prop :=
  Calls Tryz.prog 93 #[.pointer (some ⟨g, 0, none⟩), .int .i64 op, .agg #[.int .i64 qr, .int .i64 qa]] w fun e w' => e = .returned (.bool ok) ∧ ∃ y', (ok = true → Sm w' B g y' t2 st) ∧ Fm w w' g y y'
set_option maxHeartbeats 8000000 in
theorem one_n (B g : Nat) (y : Mv) (t : Ms) (st qr qa : Int) (w : World) (op : Int) (t2 : Ms) (h : Sm w B g y t st) (hk : Dk t.d) (hq : t.d.ldB qr qa = false) : OnIs B g y t (t2) st op qr qa false w := by
  have hs : (0 : Int) ≤ 0 ∧ (0 : Int) ≤ 65535 := by omega
  have HQ := hide hq
  obtain ⟨s0, s1⟩ := hs
  have GL := hide (show g < w.heap.size from row_lt h.row)
  have YL := hide (fun b (hb : y.at b) => (h.own.lo hb).2)
  have H0 := hide ((h.later (below_new w (Obj.cells #[.int .i64 qr, .int .i64 qa] 97))).later (below_drew (w := (w.alloc (Obj.cells #[.int .i64 qr, .int .i64 qa] 97)))))
  have R0 := hide (row_lat (heap_alloc_last w (Obj.cells #[.int .i64 qr, .int .i64 qa] 97)) (below_drew (w := (w.alloc (Obj.cells #[.int .i64 qr, .int .i64 qa] 97)))))
  have BB := hide ((below_new w (Obj.cells #[.int .i64 qr, .int .i64 qa] 97)).trans ((below_drew (w := (w.alloc (Obj.cells #[.int .i64 qr, .int .i64 qa] 97)))).mono (by simp)))
  have LD := hide (fun v (r : RdM v y t.d) => loadS_any y t.d qr qa v (h.small hk) r)
  rw [hq] at LD
  have DB := hk.ldb qr qa
  have DK := hide hk
  unfold OnIs
  generalize t.d.ldV qr qa = D at LD DB ⊢
  clear h hk hq
  obtain ⟨d0, d1⟩ := DB
  
  go_enter Tryz.func93, Tryz.ntmps93
  go_wp2_with fail
  refine wp_region_held_drew (S := fun v => v.heap[g]? = some (.cells y.cs 26 (0, 0)) ∧ v.heap[w.heap.size]? = some (.cells #[.int .i64 qr, .int .i64 qa] 97 (0, 0))) (by kernel_rfl) ⟨(unhide H0).row, unhide R0⟩ (fun hS => ?_)
  have HS := hide hS
  clear hS
  generalize (w.alloc (Obj.cells #[.int .i64 qr, .int .i64 qa] 97)).drew = wd at H0 R0 BB HS ⊢
  refine wpAnyH_take (i := 0) (v := .pointer (some ⟨g, 0, none⟩)) rfl (by kernel_rfl) (by kernel_rfl) (by kernel_rfl) (fun _ _ _ h => h) (Or.inl ⟨by rfl, fun w hc => ?_⟩) (unhide HS) ?_
  · clear hc; go_simp
  go_simp
  refine wpAnyH_take (i := 1) (v := .pointer (some ⟨g, 0, none⟩)) rfl (by kernel_rfl) (by kernel_rfl) (by kernel_rfl) (fun _ _ _ h => h) (Or.inl ⟨by rfl, fun w hc => ?_⟩) (unhide HS) ?_
  · clear hc; go_simp
  go_simp
  refine wpAnyH_take (i := 2) (v := .agg y.cs) rfl (by kernel_rfl) (by kernel_rfl) (by kernel_rfl) (fun _ _ _ h => h) (yields_load rfl 26 _ rfl g rfl 26 y.cs _ (fun w h => h.1) Tryz.underlying26 rfl (by kernel_rfl)) (unhide HS) ?_
  go_simp
  refine wpAnyH_take (i := 3) (v := .agg #[.int .i64 qr, .int .i64 qa]) rfl (by kernel_rfl) (by kernel_rfl) (by kernel_rfl) (fun _ _ _ h => h) (yields_load rfl 97 _ rfl w.heap.size rfl 97 #[.int .i64 qr, .int .i64 qa] _ (fun w h => h.2) Tryz.underlying97 rfl (by kernel_rfl)) (unhide HS) ?_
  go_simp
  refine wpAnyH_ready (rs := [4]) (by kernel_rfl) (by simp) ?_
  refine AllReadyH.cons rfl (fun K2 hK => ?_) (AllReadyH.nil)
  go_simp
  have P := hide (unhide LD wd (unhide H0).own.rd)
  refine (unhide P).mono ?_
  rintro e w2 ⟨rfl, hb⟩
  have H2 := hide ((unhide H0).later hb)
  have WD := hide (show w.heap.size < wd.heap.size from row_lt (unhide R0))
  have B2 := hide ((unhide BB).trans (hb.mono (by have := unhide WD; omega)))
  have R2 := hide (row_lat (unhide R0) hb)
  refine hK.out _ _ ⟨(unhide H2).row, unhide R2⟩ (fun hS => ?_)
  clear HS
  have HS := hide hS
  clear hS hK K2 hb P LD H0 R0 BB
  refine wpAnyH_take (i := 5) (v := .tuple #[.int .i64 D, .bool false]) rfl (by kernel_rfl) (by kernel_rfl) (by kernel_rfl) (fun _ _ _ h => h) (Or.inl ⟨by rfl, fun w hc => ?_⟩) (unhide HS) ?_
  · clear hc; go_simp
  go_simp
  refine wpAnyH_take (i := 6) (v := .int .i64 D) rfl (by kernel_rfl) (by kernel_rfl) (by kernel_rfl) (fun _ _ _ h => h) (Or.inl ⟨by rfl, fun w hc => ?_⟩) (unhide HS) ?_
  · clear hc; go_simp
  go_simp
  refine wpAnyH_take (i := 7) (v := .bool false) rfl (by kernel_rfl) (by kernel_rfl) (by kernel_rfl) (fun _ _ _ h => h) (Or.inl ⟨by rfl, fun w hc => ?_⟩) (unhide HS) ?_
  · clear hc; go_simp
  go_simp
  refine wpAnyH_take (i := 8) (v := .int .i64 D) rfl (by kernel_rfl) (by kernel_rfl) (by kernel_rfl) (fun _ _ _ h => h) (Or.inl ⟨by rfl, fun w hc => ?_⟩) (unhide HS) ?_
  · clear hc; go_simp
  go_simp
  refine wpAnyH_take (i := 9) (v := .bool false) rfl (by kernel_rfl) (by kernel_rfl) (by kernel_rfl) (fun _ _ _ h => h) (Or.inl ⟨by rfl, fun w hc => ?_⟩) (unhide HS) ?_
  · clear hc; go_simp
  go_simp
  refine wpAnyH_done (by kernel_rfl) ?_ _
  clear HS
  go_wp2_with fail
  go_ret
  exact ⟨rfl, y, fun h => Bool.noConfusion h, Fm.of (unhide B2)⟩
set_option maxHeartbeats 8000000 in
theorem one_7 (B g : Nat) (y : Mv) (t : Ms) (st qr qa : Int) (w : World) (h : Sm w B g y t st) (hk : Dk t.d) (hq : t.d.ldB qr qa = true) : OnIs B g y t (t.one 7 qr qa) st 7 qr qa true w := by
  have hs : (0 : Int) ≤ 0 ∧ (0 : Int) ≤ 65535 := by omega
  have HQ := hide hq
  obtain ⟨s0, s1⟩ := hs
  have GL := hide (show g < w.heap.size from row_lt h.row)
  have YL := hide (fun b (hb : y.at b) => (h.own.lo hb).2)
  have H0 := hide ((h.later (below_new w (Obj.cells #[.int .i64 qr, .int .i64 qa] 97))).later (below_drew (w := (w.alloc (Obj.cells #[.int .i64 qr, .int .i64 qa] 97)))))
  have R0 := hide (row_lat (heap_alloc_last w (Obj.cells #[.int .i64 qr, .int .i64 qa] 97)) (below_drew (w := (w.alloc (Obj.cells #[.int .i64 qr, .int .i64 qa] 97)))))
  have BB := hide ((below_new w (Obj.cells #[.int .i64 qr, .int .i64 qa] 97)).trans ((below_drew (w := (w.alloc (Obj.cells #[.int .i64 qr, .int .i64 qa] 97)))).mono (by simp)))
  have LD := hide (fun v (r : RdM v y t.d) => loadS_any y t.d qr qa v (h.small hk) r)
  rw [hq] at LD
  have DB := hk.ldb qr qa
  have DK := hide hk
  unfold OnIs Ms.one
  generalize t.d.ldV qr qa = D at LD DB ⊢
  clear h hk hq
  obtain ⟨d0, d1⟩ := DB
  
  go_enter Tryz.func93, Tryz.ntmps93
  go_wp2_with fail
  refine wp_region_held_drew (S := fun v => v.heap[g]? = some (.cells y.cs 26 (0, 0)) ∧ v.heap[w.heap.size]? = some (.cells #[.int .i64 qr, .int .i64 qa] 97 (0, 0))) (by kernel_rfl) ⟨(unhide H0).row, unhide R0⟩ (fun hS => ?_)
  have HS := hide hS
  clear hS
  generalize (w.alloc (Obj.cells #[.int .i64 qr, .int .i64 qa] 97)).drew = wd at H0 R0 BB HS ⊢
  refine wpAnyH_take (i := 0) (v := .pointer (some ⟨g, 0, none⟩)) rfl (by kernel_rfl) (by kernel_rfl) (by kernel_rfl) (fun _ _ _ h => h) (Or.inl ⟨by rfl, fun w hc => ?_⟩) (unhide HS) ?_
  · clear hc; go_simp
  go_simp
  refine wpAnyH_take (i := 1) (v := .pointer (some ⟨g, 0, none⟩)) rfl (by kernel_rfl) (by kernel_rfl) (by kernel_rfl) (fun _ _ _ h => h) (Or.inl ⟨by rfl, fun w hc => ?_⟩) (unhide HS) ?_
  · clear hc; go_simp
  go_simp
  refine wpAnyH_take (i := 2) (v := .agg y.cs) rfl (by kernel_rfl) (by kernel_rfl) (by kernel_rfl) (fun _ _ _ h => h) (yields_load rfl 26 _ rfl g rfl 26 y.cs _ (fun w h => h.1) Tryz.underlying26 rfl (by kernel_rfl)) (unhide HS) ?_
  go_simp
  refine wpAnyH_take (i := 3) (v := .agg #[.int .i64 qr, .int .i64 qa]) rfl (by kernel_rfl) (by kernel_rfl) (by kernel_rfl) (fun _ _ _ h => h) (yields_load rfl 97 _ rfl w.heap.size rfl 97 #[.int .i64 qr, .int .i64 qa] _ (fun w h => h.2) Tryz.underlying97 rfl (by kernel_rfl)) (unhide HS) ?_
  go_simp
  refine wpAnyH_ready (rs := [4]) (by kernel_rfl) (by simp) ?_
  refine AllReadyH.cons rfl (fun K2 hK => ?_) (AllReadyH.nil)
  go_simp
  have P := hide (unhide LD wd (unhide H0).own.rd)
  refine (unhide P).mono ?_
  rintro e w2 ⟨rfl, hb⟩
  have H2 := hide ((unhide H0).later hb)
  have WD := hide (show w.heap.size < wd.heap.size from row_lt (unhide R0))
  have B2 := hide ((unhide BB).trans (hb.mono (by have := unhide WD; omega)))
  have R2 := hide (row_lat (unhide R0) hb)
  refine hK.out _ _ ⟨(unhide H2).row, unhide R2⟩ (fun hS => ?_)
  clear HS
  have HS := hide hS
  clear hS hK K2 hb P LD H0 R0 BB
  refine wpAnyH_take (i := 5) (v := .tuple #[.int .i64 D, .bool true]) rfl (by kernel_rfl) (by kernel_rfl) (by kernel_rfl) (fun _ _ _ h => h) (Or.inl ⟨by rfl, fun w hc => ?_⟩) (unhide HS) ?_
  · clear hc; go_simp
  go_simp
  refine wpAnyH_take (i := 6) (v := .int .i64 D) rfl (by kernel_rfl) (by kernel_rfl) (by kernel_rfl) (fun _ _ _ h => h) (Or.inl ⟨by rfl, fun w hc => ?_⟩) (unhide HS) ?_
  · clear hc; go_simp
  go_simp
  refine wpAnyH_take (i := 7) (v := .bool true) rfl (by kernel_rfl) (by kernel_rfl) (by kernel_rfl) (fun _ _ _ h => h) (Or.inl ⟨by rfl, fun w hc => ?_⟩) (unhide HS) ?_
  · clear hc; go_simp
  go_simp
  refine wpAnyH_take (i := 8) (v := .int .i64 D) rfl (by kernel_rfl) (by kernel_rfl) (by kernel_rfl) (fun _ _ _ h => h) (Or.inl ⟨by rfl, fun w hc => ?_⟩) (unhide HS) ?_
  · clear hc; go_simp
  go_simp
  refine wpAnyH_take (i := 9) (v := .bool true) rfl (by kernel_rfl) (by kernel_rfl) (by kernel_rfl) (fun _ _ _ h => h) (Or.inl ⟨by rfl, fun w hc => ?_⟩) (unhide HS) ?_
  · clear hc; go_simp
  go_simp
  refine wpAnyH_done (by kernel_rfl) ?_ _
  clear HS
  have NZ := hide (nz_any B g y t st 0 false w2 (unhide H2))
  go_wp2_with fail
  refine (unhide NZ).mono ?_
  rintro e w3 ⟨rfl, h3, f3⟩
  have H3 := hide h3
  have F3 := hide ((Fm.of (unhide B2)).trans f3)
  have R3 := hide (f3.row (unhide R2) (by have := unhide GL; omega) (fun e => by have := unhide YL _ e; omega))
  clear h3 f3 NZ H2 B2 R2
  have c5 := row_c (unhide H3).row
  have f5 := row_fz (unhide H3).row 5
  obtain ⟨h4, f4⟩ := (unhide H3).setC (false)
  have H4 := hide h4
  have F4 := hide ((unhide F3).trans f4)
  have R4 := hide (f4.row (unhide R3) (by have := unhide GL; omega) (fun e => by have := unhide YL _ e; omega))
  clear h4 f4
  have P := hide (put7_any B g _ ((t.nz 0 false).cs false) st qr qa 0 _ (unhide H4) (unhide DK))
  rw [show ((t.nz 0 false).cs false).d.ldB qr qa = true from unhide HQ] at P
  go_wp2_with (refine wpList_load_row rfl 97 _ rfl w.heap.size rfl 97 #[.int .i64 qr, .int .i64 qa] (0, 0) _ (unhide R4) Tryz.underlying97 rfl (by kernel_rfl) ?_)
  refine (unhide P).mono ?_
  rintro e w7 ⟨rfl, y7, h7, f7⟩
  have H7 := hide h7
  have F7 := hide ((unhide F4).trans f7)
  clear h7 f7 P
  go_wp2
  go_ret
  exact ⟨rfl, y7, fun _ => unhide H7, unhide F7⟩
set_option maxHeartbeats 8000000 in
theorem one_8 (B g : Nat) (y : Mv) (t : Ms) (st qr qa : Int) (w : World) (h : Sm w B g y t st) (hk : Dk t.d) (hq : t.d.ldB qr qa = true) : OnIs B g y t (t.one 8 qr qa) st 8 qr qa true w := by
  have hs : (0 : Int) ≤ 0 ∧ (0 : Int) ≤ 65535 := by omega
  have HQ := hide hq
  obtain ⟨s0, s1⟩ := hs
  have GL := hide (show g < w.heap.size from row_lt h.row)
  have YL := hide (fun b (hb : y.at b) => (h.own.lo hb).2)
  have H0 := hide ((h.later (below_new w (Obj.cells #[.int .i64 qr, .int .i64 qa] 97))).later (below_drew (w := (w.alloc (Obj.cells #[.int .i64 qr, .int .i64 qa] 97)))))
  have R0 := hide (row_lat (heap_alloc_last w (Obj.cells #[.int .i64 qr, .int .i64 qa] 97)) (below_drew (w := (w.alloc (Obj.cells #[.int .i64 qr, .int .i64 qa] 97)))))
  have BB := hide ((below_new w (Obj.cells #[.int .i64 qr, .int .i64 qa] 97)).trans ((below_drew (w := (w.alloc (Obj.cells #[.int .i64 qr, .int .i64 qa] 97)))).mono (by simp)))
  have LD := hide (fun v (r : RdM v y t.d) => loadS_any y t.d qr qa v (h.small hk) r)
  rw [hq] at LD
  have DB := hk.ldb qr qa
  have DK := hide hk
  unfold OnIs Ms.one
  generalize t.d.ldV qr qa = D at LD DB ⊢
  clear h hk hq
  obtain ⟨d0, d1⟩ := DB
  
  go_enter Tryz.func93, Tryz.ntmps93
  go_wp2_with fail
  refine wp_region_held_drew (S := fun v => v.heap[g]? = some (.cells y.cs 26 (0, 0)) ∧ v.heap[w.heap.size]? = some (.cells #[.int .i64 qr, .int .i64 qa] 97 (0, 0))) (by kernel_rfl) ⟨(unhide H0).row, unhide R0⟩ (fun hS => ?_)
  have HS := hide hS
  clear hS
  generalize (w.alloc (Obj.cells #[.int .i64 qr, .int .i64 qa] 97)).drew = wd at H0 R0 BB HS ⊢
  refine wpAnyH_take (i := 0) (v := .pointer (some ⟨g, 0, none⟩)) rfl (by kernel_rfl) (by kernel_rfl) (by kernel_rfl) (fun _ _ _ h => h) (Or.inl ⟨by rfl, fun w hc => ?_⟩) (unhide HS) ?_
  · clear hc; go_simp
  go_simp
  refine wpAnyH_take (i := 1) (v := .pointer (some ⟨g, 0, none⟩)) rfl (by kernel_rfl) (by kernel_rfl) (by kernel_rfl) (fun _ _ _ h => h) (Or.inl ⟨by rfl, fun w hc => ?_⟩) (unhide HS) ?_
  · clear hc; go_simp
  go_simp
  refine wpAnyH_take (i := 2) (v := .agg y.cs) rfl (by kernel_rfl) (by kernel_rfl) (by kernel_rfl) (fun _ _ _ h => h) (yields_load rfl 26 _ rfl g rfl 26 y.cs _ (fun w h => h.1) Tryz.underlying26 rfl (by kernel_rfl)) (unhide HS) ?_
  go_simp
  refine wpAnyH_take (i := 3) (v := .agg #[.int .i64 qr, .int .i64 qa]) rfl (by kernel_rfl) (by kernel_rfl) (by kernel_rfl) (fun _ _ _ h => h) (yields_load rfl 97 _ rfl w.heap.size rfl 97 #[.int .i64 qr, .int .i64 qa] _ (fun w h => h.2) Tryz.underlying97 rfl (by kernel_rfl)) (unhide HS) ?_
  go_simp
  refine wpAnyH_ready (rs := [4]) (by kernel_rfl) (by simp) ?_
  refine AllReadyH.cons rfl (fun K2 hK => ?_) (AllReadyH.nil)
  go_simp
  have P := hide (unhide LD wd (unhide H0).own.rd)
  refine (unhide P).mono ?_
  rintro e w2 ⟨rfl, hb⟩
  have H2 := hide ((unhide H0).later hb)
  have WD := hide (show w.heap.size < wd.heap.size from row_lt (unhide R0))
  have B2 := hide ((unhide BB).trans (hb.mono (by have := unhide WD; omega)))
  have R2 := hide (row_lat (unhide R0) hb)
  refine hK.out _ _ ⟨(unhide H2).row, unhide R2⟩ (fun hS => ?_)
  clear HS
  have HS := hide hS
  clear hS hK K2 hb P LD H0 R0 BB
  refine wpAnyH_take (i := 5) (v := .tuple #[.int .i64 D, .bool true]) rfl (by kernel_rfl) (by kernel_rfl) (by kernel_rfl) (fun _ _ _ h => h) (Or.inl ⟨by rfl, fun w hc => ?_⟩) (unhide HS) ?_
  · clear hc; go_simp
  go_simp
  refine wpAnyH_take (i := 6) (v := .int .i64 D) rfl (by kernel_rfl) (by kernel_rfl) (by kernel_rfl) (fun _ _ _ h => h) (Or.inl ⟨by rfl, fun w hc => ?_⟩) (unhide HS) ?_
  · clear hc; go_simp
  go_simp
  refine wpAnyH_take (i := 7) (v := .bool true) rfl (by kernel_rfl) (by kernel_rfl) (by kernel_rfl) (fun _ _ _ h => h) (Or.inl ⟨by rfl, fun w hc => ?_⟩) (unhide HS) ?_
  · clear hc; go_simp
  go_simp
  refine wpAnyH_take (i := 8) (v := .int .i64 D) rfl (by kernel_rfl) (by kernel_rfl) (by kernel_rfl) (fun _ _ _ h => h) (Or.inl ⟨by rfl, fun w hc => ?_⟩) (unhide HS) ?_
  · clear hc; go_simp
  go_simp
  refine wpAnyH_take (i := 9) (v := .bool true) rfl (by kernel_rfl) (by kernel_rfl) (by kernel_rfl) (fun _ _ _ h => h) (Or.inl ⟨by rfl, fun w hc => ?_⟩) (unhide HS) ?_
  · clear hc; go_simp
  go_simp
  refine wpAnyH_done (by kernel_rfl) ?_ _
  clear HS
  have NZ := hide (nz_any B g y t st (D + 1) (D == 32767) w2 (unhide H2))
  go_wp2_with fail
  refine (unhide NZ).mono ?_
  rintro e w3 ⟨rfl, h3, f3⟩
  have H3 := hide h3
  have F3 := hide ((Fm.of (unhide B2)).trans f3)
  have R3 := hide (f3.row (unhide R2) (by have := unhide GL; omega) (fun e => by have := unhide YL _ e; omega))
  clear h3 f3 NZ H2 B2 R2
  have P := hide (put7_any B g _ (t.nz (D + 1) (D == 32767)) st qr qa (D + 1) _ (unhide H3) (unhide DK))
  rw [show (t.nz (D + 1) (D == 32767)).d.ldB qr qa = true from unhide HQ] at P
  go_wp2_with (refine wpList_load_row rfl 97 _ rfl w.heap.size rfl 97 #[.int .i64 qr, .int .i64 qa] (0, 0) _ (unhide R3) Tryz.underlying97 rfl (by kernel_rfl) ?_)
  refine (unhide P).mono ?_
  rintro e w7 ⟨rfl, y7, h7, f7⟩
  have H7 := hide h7
  have F7 := hide ((unhide F3).trans f7)
  clear h7 f7 P
  go_wp2
  go_ret
  exact ⟨rfl, y7, fun _ => unhide H7, unhide F7⟩
set_option maxHeartbeats 8000000 in
theorem one_9 (B g : Nat) (y : Mv) (t : Ms) (st qr qa : Int) (w : World) (h : Sm w B g y t st) (hk : Dk t.d) (hq : t.d.ldB qr qa = true) : OnIs B g y t (t.one 9 qr qa) st 9 qr qa true w := by
  have hs : (0 : Int) ≤ 0 ∧ (0 : Int) ≤ 65535 := by omega
  have HQ := hide hq
  obtain ⟨s0, s1⟩ := hs
  have GL := hide (show g < w.heap.size from row_lt h.row)
  have YL := hide (fun b (hb : y.at b) => (h.own.lo hb).2)
  have H0 := hide ((h.later (below_new w (Obj.cells #[.int .i64 qr, .int .i64 qa] 97))).later (below_drew (w := (w.alloc (Obj.cells #[.int .i64 qr, .int .i64 qa] 97)))))
  have R0 := hide (row_lat (heap_alloc_last w (Obj.cells #[.int .i64 qr, .int .i64 qa] 97)) (below_drew (w := (w.alloc (Obj.cells #[.int .i64 qr, .int .i64 qa] 97)))))
  have BB := hide ((below_new w (Obj.cells #[.int .i64 qr, .int .i64 qa] 97)).trans ((below_drew (w := (w.alloc (Obj.cells #[.int .i64 qr, .int .i64 qa] 97)))).mono (by simp)))
  have LD := hide (fun v (r : RdM v y t.d) => loadS_any y t.d qr qa v (h.small hk) r)
  rw [hq] at LD
  have DB := hk.ldb qr qa
  have DK := hide hk
  unfold OnIs Ms.one
  generalize t.d.ldV qr qa = D at LD DB ⊢
  clear h hk hq
  obtain ⟨d0, d1⟩ := DB
  
  go_enter Tryz.func93, Tryz.ntmps93
  go_wp2_with fail
  refine wp_region_held_drew (S := fun v => v.heap[g]? = some (.cells y.cs 26 (0, 0)) ∧ v.heap[w.heap.size]? = some (.cells #[.int .i64 qr, .int .i64 qa] 97 (0, 0))) (by kernel_rfl) ⟨(unhide H0).row, unhide R0⟩ (fun hS => ?_)
  have HS := hide hS
  clear hS
  generalize (w.alloc (Obj.cells #[.int .i64 qr, .int .i64 qa] 97)).drew = wd at H0 R0 BB HS ⊢
  refine wpAnyH_take (i := 0) (v := .pointer (some ⟨g, 0, none⟩)) rfl (by kernel_rfl) (by kernel_rfl) (by kernel_rfl) (fun _ _ _ h => h) (Or.inl ⟨by rfl, fun w hc => ?_⟩) (unhide HS) ?_
  · clear hc; go_simp
  go_simp
  refine wpAnyH_take (i := 1) (v := .pointer (some ⟨g, 0, none⟩)) rfl (by kernel_rfl) (by kernel_rfl) (by kernel_rfl) (fun _ _ _ h => h) (Or.inl ⟨by rfl, fun w hc => ?_⟩) (unhide HS) ?_
  · clear hc; go_simp
  go_simp
  refine wpAnyH_take (i := 2) (v := .agg y.cs) rfl (by kernel_rfl) (by kernel_rfl) (by kernel_rfl) (fun _ _ _ h => h) (yields_load rfl 26 _ rfl g rfl 26 y.cs _ (fun w h => h.1) Tryz.underlying26 rfl (by kernel_rfl)) (unhide HS) ?_
  go_simp
  refine wpAnyH_take (i := 3) (v := .agg #[.int .i64 qr, .int .i64 qa]) rfl (by kernel_rfl) (by kernel_rfl) (by kernel_rfl) (fun _ _ _ h => h) (yields_load rfl 97 _ rfl w.heap.size rfl 97 #[.int .i64 qr, .int .i64 qa] _ (fun w h => h.2) Tryz.underlying97 rfl (by kernel_rfl)) (unhide HS) ?_
  go_simp
  refine wpAnyH_ready (rs := [4]) (by kernel_rfl) (by simp) ?_
  refine AllReadyH.cons rfl (fun K2 hK => ?_) (AllReadyH.nil)
  go_simp
  have P := hide (unhide LD wd (unhide H0).own.rd)
  refine (unhide P).mono ?_
  rintro e w2 ⟨rfl, hb⟩
  have H2 := hide ((unhide H0).later hb)
  have WD := hide (show w.heap.size < wd.heap.size from row_lt (unhide R0))
  have B2 := hide ((unhide BB).trans (hb.mono (by have := unhide WD; omega)))
  have R2 := hide (row_lat (unhide R0) hb)
  refine hK.out _ _ ⟨(unhide H2).row, unhide R2⟩ (fun hS => ?_)
  clear HS
  have HS := hide hS
  clear hS hK K2 hb P LD H0 R0 BB
  refine wpAnyH_take (i := 5) (v := .tuple #[.int .i64 D, .bool true]) rfl (by kernel_rfl) (by kernel_rfl) (by kernel_rfl) (fun _ _ _ h => h) (Or.inl ⟨by rfl, fun w hc => ?_⟩) (unhide HS) ?_
  · clear hc; go_simp
  go_simp
  refine wpAnyH_take (i := 6) (v := .int .i64 D) rfl (by kernel_rfl) (by kernel_rfl) (by kernel_rfl) (fun _ _ _ h => h) (Or.inl ⟨by rfl, fun w hc => ?_⟩) (unhide HS) ?_
  · clear hc; go_simp
  go_simp
  refine wpAnyH_take (i := 7) (v := .bool true) rfl (by kernel_rfl) (by kernel_rfl) (by kernel_rfl) (fun _ _ _ h => h) (Or.inl ⟨by rfl, fun w hc => ?_⟩) (unhide HS) ?_
  · clear hc; go_simp
  go_simp
  refine wpAnyH_take (i := 8) (v := .int .i64 D) rfl (by kernel_rfl) (by kernel_rfl) (by kernel_rfl) (fun _ _ _ h => h) (Or.inl ⟨by rfl, fun w hc => ?_⟩) (unhide HS) ?_
  · clear hc; go_simp
  go_simp
  refine wpAnyH_take (i := 9) (v := .bool true) rfl (by kernel_rfl) (by kernel_rfl) (by kernel_rfl) (fun _ _ _ h => h) (Or.inl ⟨by rfl, fun w hc => ?_⟩) (unhide HS) ?_
  · clear hc; go_simp
  go_simp
  refine wpAnyH_done (by kernel_rfl) ?_ _
  clear HS
  have NZ := hide (nz_any B g y t st (D - 1) (D == 32768) w2 (unhide H2))
  go_wp2_with fail
  refine (unhide NZ).mono ?_
  rintro e w3 ⟨rfl, h3, f3⟩
  have H3 := hide h3
  have F3 := hide ((Fm.of (unhide B2)).trans f3)
  have R3 := hide (f3.row (unhide R2) (by have := unhide GL; omega) (fun e => by have := unhide YL _ e; omega))
  clear h3 f3 NZ H2 B2 R2
  have P := hide (put7_any B g _ (t.nz (D - 1) (D == 32768)) st qr qa (D - 1) _ (unhide H3) (unhide DK))
  rw [show (t.nz (D - 1) (D == 32768)).d.ldB qr qa = true from unhide HQ] at P
  go_wp2_with (refine wpList_load_row rfl 97 _ rfl w.heap.size rfl 97 #[.int .i64 qr, .int .i64 qa] (0, 0) _ (unhide R3) Tryz.underlying97 rfl (by kernel_rfl) ?_)
  refine (unhide P).mono ?_
  rintro e w7 ⟨rfl, y7, h7, f7⟩
  have H7 := hide h7
  have F7 := hide ((unhide F3).trans f7)
  clear h7 f7 P
  go_wp2
  go_ret
  exact ⟨rfl, y7, fun _ => unhide H7, unhide F7⟩
set_option maxHeartbeats 8000000 in
theorem one_10 (B g : Nat) (y : Mv) (t : Ms) (st qr qa : Int) (w : World) (h : Sm w B g y t st) (hk : Dk t.d) (hq : t.d.ldB qr qa = true) : OnIs B g y t (t.one 10 qr qa) st 10 qr qa true w := by
  have hs : (0 : Int) ≤ 0 ∧ (0 : Int) ≤ 65535 := by omega
  have HQ := hide hq
  obtain ⟨s0, s1⟩ := hs
  have GL := hide (show g < w.heap.size from row_lt h.row)
  have YL := hide (fun b (hb : y.at b) => (h.own.lo hb).2)
  have H0 := hide ((h.later (below_new w (Obj.cells #[.int .i64 qr, .int .i64 qa] 97))).later (below_drew (w := (w.alloc (Obj.cells #[.int .i64 qr, .int .i64 qa] 97)))))
  have R0 := hide (row_lat (heap_alloc_last w (Obj.cells #[.int .i64 qr, .int .i64 qa] 97)) (below_drew (w := (w.alloc (Obj.cells #[.int .i64 qr, .int .i64 qa] 97)))))
  have BB := hide ((below_new w (Obj.cells #[.int .i64 qr, .int .i64 qa] 97)).trans ((below_drew (w := (w.alloc (Obj.cells #[.int .i64 qr, .int .i64 qa] 97)))).mono (by simp)))
  have LD := hide (fun v (r : RdM v y t.d) => loadS_any y t.d qr qa v (h.small hk) r)
  rw [hq] at LD
  have DB := hk.ldb qr qa
  have DK := hide hk
  unfold OnIs Ms.one
  generalize t.d.ldV qr qa = D at LD DB ⊢
  clear h hk hq
  obtain ⟨d0, d1⟩ := DB
  
  go_enter Tryz.func93, Tryz.ntmps93
  go_wp2_with fail
  refine wp_region_held_drew (S := fun v => v.heap[g]? = some (.cells y.cs 26 (0, 0)) ∧ v.heap[w.heap.size]? = some (.cells #[.int .i64 qr, .int .i64 qa] 97 (0, 0))) (by kernel_rfl) ⟨(unhide H0).row, unhide R0⟩ (fun hS => ?_)
  have HS := hide hS
  clear hS
  generalize (w.alloc (Obj.cells #[.int .i64 qr, .int .i64 qa] 97)).drew = wd at H0 R0 BB HS ⊢
  refine wpAnyH_take (i := 0) (v := .pointer (some ⟨g, 0, none⟩)) rfl (by kernel_rfl) (by kernel_rfl) (by kernel_rfl) (fun _ _ _ h => h) (Or.inl ⟨by rfl, fun w hc => ?_⟩) (unhide HS) ?_
  · clear hc; go_simp
  go_simp
  refine wpAnyH_take (i := 1) (v := .pointer (some ⟨g, 0, none⟩)) rfl (by kernel_rfl) (by kernel_rfl) (by kernel_rfl) (fun _ _ _ h => h) (Or.inl ⟨by rfl, fun w hc => ?_⟩) (unhide HS) ?_
  · clear hc; go_simp
  go_simp
  refine wpAnyH_take (i := 2) (v := .agg y.cs) rfl (by kernel_rfl) (by kernel_rfl) (by kernel_rfl) (fun _ _ _ h => h) (yields_load rfl 26 _ rfl g rfl 26 y.cs _ (fun w h => h.1) Tryz.underlying26 rfl (by kernel_rfl)) (unhide HS) ?_
  go_simp
  refine wpAnyH_take (i := 3) (v := .agg #[.int .i64 qr, .int .i64 qa]) rfl (by kernel_rfl) (by kernel_rfl) (by kernel_rfl) (fun _ _ _ h => h) (yields_load rfl 97 _ rfl w.heap.size rfl 97 #[.int .i64 qr, .int .i64 qa] _ (fun w h => h.2) Tryz.underlying97 rfl (by kernel_rfl)) (unhide HS) ?_
  go_simp
  refine wpAnyH_ready (rs := [4]) (by kernel_rfl) (by simp) ?_
  refine AllReadyH.cons rfl (fun K2 hK => ?_) (AllReadyH.nil)
  go_simp
  have P := hide (unhide LD wd (unhide H0).own.rd)
  refine (unhide P).mono ?_
  rintro e w2 ⟨rfl, hb⟩
  have H2 := hide ((unhide H0).later hb)
  have WD := hide (show w.heap.size < wd.heap.size from row_lt (unhide R0))
  have B2 := hide ((unhide BB).trans (hb.mono (by have := unhide WD; omega)))
  have R2 := hide (row_lat (unhide R0) hb)
  refine hK.out _ _ ⟨(unhide H2).row, unhide R2⟩ (fun hS => ?_)
  clear HS
  have HS := hide hS
  clear hS hK K2 hb P LD H0 R0 BB
  refine wpAnyH_take (i := 5) (v := .tuple #[.int .i64 D, .bool true]) rfl (by kernel_rfl) (by kernel_rfl) (by kernel_rfl) (fun _ _ _ h => h) (Or.inl ⟨by rfl, fun w hc => ?_⟩) (unhide HS) ?_
  · clear hc; go_simp
  go_simp
  refine wpAnyH_take (i := 6) (v := .int .i64 D) rfl (by kernel_rfl) (by kernel_rfl) (by kernel_rfl) (fun _ _ _ h => h) (Or.inl ⟨by rfl, fun w hc => ?_⟩) (unhide HS) ?_
  · clear hc; go_simp
  go_simp
  refine wpAnyH_take (i := 7) (v := .bool true) rfl (by kernel_rfl) (by kernel_rfl) (by kernel_rfl) (fun _ _ _ h => h) (Or.inl ⟨by rfl, fun w hc => ?_⟩) (unhide HS) ?_
  · clear hc; go_simp
  go_simp
  refine wpAnyH_take (i := 8) (v := .int .i64 D) rfl (by kernel_rfl) (by kernel_rfl) (by kernel_rfl) (fun _ _ _ h => h) (Or.inl ⟨by rfl, fun w hc => ?_⟩) (unhide HS) ?_
  · clear hc; go_simp
  go_simp
  refine wpAnyH_take (i := 9) (v := .bool true) rfl (by kernel_rfl) (by kernel_rfl) (by kernel_rfl) (fun _ _ _ h => h) (Or.inl ⟨by rfl, fun w hc => ?_⟩) (unhide HS) ?_
  · clear hc; go_simp
  go_simp
  refine wpAnyH_done (by kernel_rfl) ?_ _
  clear HS
  have NZ := hide (nz_any B g y t st (-D) (D == 32768) w2 (unhide H2))
  go_wp2_with fail
  refine (unhide NZ).mono ?_
  rintro e w3 ⟨rfl, h3, f3⟩
  have H3 := hide h3
  have F3 := hide ((Fm.of (unhide B2)).trans f3)
  have R3 := hide (f3.row (unhide R2) (by have := unhide GL; omega) (fun e => by have := unhide YL _ e; omega))
  clear h3 f3 NZ H2 B2 R2
  have c5 := row_c (unhide H3).row
  have f5 := row_fz (unhide H3).row 5
  obtain ⟨h4, f4⟩ := (unhide H3).setC (D != 0)
  have H4 := hide h4
  have F4 := hide ((unhide F3).trans f4)
  have R4 := hide (f4.row (unhide R3) (by have := unhide GL; omega) (fun e => by have := unhide YL _ e; omega))
  clear h4 f4
  have P := hide (put7_any B g _ ((t.nz (-D) (D == 32768)).cs (D != 0)) st qr qa (-D) _ (unhide H4) (unhide DK))
  rw [show ((t.nz (-D) (D == 32768)).cs (D != 0)).d.ldB qr qa = true from unhide HQ] at P
  go_wp2_with (refine wpList_load_row rfl 97 _ rfl w.heap.size rfl 97 #[.int .i64 qr, .int .i64 qa] (0, 0) _ (unhide R4) Tryz.underlying97 rfl (by kernel_rfl) ?_)
  refine (unhide P).mono ?_
  rintro e w7 ⟨rfl, y7, h7, f7⟩
  have H7 := hide h7
  have F7 := hide ((unhide F4).trans f7)
  clear h7 f7 P
  go_wp2
  go_ret
  exact ⟨rfl, y7, fun _ => unhide H7, unhide F7⟩
set_option maxHeartbeats 8000000 in
theorem one_11 (B g : Nat) (y : Mv) (t : Ms) (st qr qa : Int) (w : World) (h : Sm w B g y t st) (hk : Dk t.d) (hq : t.d.ldB qr qa = true) : OnIs B g y t (t.one 11 qr qa) st 11 qr qa true w := by
  have hs : (0 : Int) ≤ 0 ∧ (0 : Int) ≤ 65535 := by omega
  have HQ := hide hq
  obtain ⟨s0, s1⟩ := hs
  have GL := hide (show g < w.heap.size from row_lt h.row)
  have YL := hide (fun b (hb : y.at b) => (h.own.lo hb).2)
  have H0 := hide ((h.later (below_new w (Obj.cells #[.int .i64 qr, .int .i64 qa] 97))).later (below_drew (w := (w.alloc (Obj.cells #[.int .i64 qr, .int .i64 qa] 97)))))
  have R0 := hide (row_lat (heap_alloc_last w (Obj.cells #[.int .i64 qr, .int .i64 qa] 97)) (below_drew (w := (w.alloc (Obj.cells #[.int .i64 qr, .int .i64 qa] 97)))))
  have BB := hide ((below_new w (Obj.cells #[.int .i64 qr, .int .i64 qa] 97)).trans ((below_drew (w := (w.alloc (Obj.cells #[.int .i64 qr, .int .i64 qa] 97)))).mono (by simp)))
  have LD := hide (fun v (r : RdM v y t.d) => loadS_any y t.d qr qa v (h.small hk) r)
  rw [hq] at LD
  have DB := hk.ldb qr qa
  have DK := hide hk
  unfold OnIs Ms.one
  generalize t.d.ldV qr qa = D at LD DB ⊢
  clear h hk hq
  obtain ⟨d0, d1⟩ := DB
  
  go_enter Tryz.func93, Tryz.ntmps93
  go_wp2_with fail
  refine wp_region_held_drew (S := fun v => v.heap[g]? = some (.cells y.cs 26 (0, 0)) ∧ v.heap[w.heap.size]? = some (.cells #[.int .i64 qr, .int .i64 qa] 97 (0, 0))) (by kernel_rfl) ⟨(unhide H0).row, unhide R0⟩ (fun hS => ?_)
  have HS := hide hS
  clear hS
  generalize (w.alloc (Obj.cells #[.int .i64 qr, .int .i64 qa] 97)).drew = wd at H0 R0 BB HS ⊢
  refine wpAnyH_take (i := 0) (v := .pointer (some ⟨g, 0, none⟩)) rfl (by kernel_rfl) (by kernel_rfl) (by kernel_rfl) (fun _ _ _ h => h) (Or.inl ⟨by rfl, fun w hc => ?_⟩) (unhide HS) ?_
  · clear hc; go_simp
  go_simp
  refine wpAnyH_take (i := 1) (v := .pointer (some ⟨g, 0, none⟩)) rfl (by kernel_rfl) (by kernel_rfl) (by kernel_rfl) (fun _ _ _ h => h) (Or.inl ⟨by rfl, fun w hc => ?_⟩) (unhide HS) ?_
  · clear hc; go_simp
  go_simp
  refine wpAnyH_take (i := 2) (v := .agg y.cs) rfl (by kernel_rfl) (by kernel_rfl) (by kernel_rfl) (fun _ _ _ h => h) (yields_load rfl 26 _ rfl g rfl 26 y.cs _ (fun w h => h.1) Tryz.underlying26 rfl (by kernel_rfl)) (unhide HS) ?_
  go_simp
  refine wpAnyH_take (i := 3) (v := .agg #[.int .i64 qr, .int .i64 qa]) rfl (by kernel_rfl) (by kernel_rfl) (by kernel_rfl) (fun _ _ _ h => h) (yields_load rfl 97 _ rfl w.heap.size rfl 97 #[.int .i64 qr, .int .i64 qa] _ (fun w h => h.2) Tryz.underlying97 rfl (by kernel_rfl)) (unhide HS) ?_
  go_simp
  refine wpAnyH_ready (rs := [4]) (by kernel_rfl) (by simp) ?_
  refine AllReadyH.cons rfl (fun K2 hK => ?_) (AllReadyH.nil)
  go_simp
  have P := hide (unhide LD wd (unhide H0).own.rd)
  refine (unhide P).mono ?_
  rintro e w2 ⟨rfl, hb⟩
  have H2 := hide ((unhide H0).later hb)
  have WD := hide (show w.heap.size < wd.heap.size from row_lt (unhide R0))
  have B2 := hide ((unhide BB).trans (hb.mono (by have := unhide WD; omega)))
  have R2 := hide (row_lat (unhide R0) hb)
  refine hK.out _ _ ⟨(unhide H2).row, unhide R2⟩ (fun hS => ?_)
  clear HS
  have HS := hide hS
  clear hS hK K2 hb P LD H0 R0 BB
  refine wpAnyH_take (i := 5) (v := .tuple #[.int .i64 D, .bool true]) rfl (by kernel_rfl) (by kernel_rfl) (by kernel_rfl) (fun _ _ _ h => h) (Or.inl ⟨by rfl, fun w hc => ?_⟩) (unhide HS) ?_
  · clear hc; go_simp
  go_simp
  refine wpAnyH_take (i := 6) (v := .int .i64 D) rfl (by kernel_rfl) (by kernel_rfl) (by kernel_rfl) (fun _ _ _ h => h) (Or.inl ⟨by rfl, fun w hc => ?_⟩) (unhide HS) ?_
  · clear hc; go_simp
  go_simp
  refine wpAnyH_take (i := 7) (v := .bool true) rfl (by kernel_rfl) (by kernel_rfl) (by kernel_rfl) (fun _ _ _ h => h) (Or.inl ⟨by rfl, fun w hc => ?_⟩) (unhide HS) ?_
  · clear hc; go_simp
  go_simp
  refine wpAnyH_take (i := 8) (v := .int .i64 D) rfl (by kernel_rfl) (by kernel_rfl) (by kernel_rfl) (fun _ _ _ h => h) (Or.inl ⟨by rfl, fun w hc => ?_⟩) (unhide HS) ?_
  · clear hc; go_simp
  go_simp
  refine wpAnyH_take (i := 9) (v := .bool true) rfl (by kernel_rfl) (by kernel_rfl) (by kernel_rfl) (fun _ _ _ h => h) (Or.inl ⟨by rfl, fun w hc => ?_⟩) (unhide HS) ?_
  · clear hc; go_simp
  go_simp
  refine wpAnyH_done (by kernel_rfl) ?_ _
  clear HS
  have NZ := hide (nz_any B g y t st D false w2 (unhide H2))
  go_wp2_with fail
  refine (unhide NZ).mono ?_
  rintro e w3 ⟨rfl, h3, f3⟩
  have H3 := hide h3
  have F3 := hide ((Fm.of (unhide B2)).trans f3)
  have R3 := hide (f3.row (unhide R2) (by have := unhide GL; omega) (fun e => by have := unhide YL _ e; omega))
  clear h3 f3 NZ H2 B2 R2
  have c5 := row_c (unhide H3).row
  have f5 := row_fz (unhide H3).row 5
  obtain ⟨h4, f4⟩ := (unhide H3).setC (false)
  have H4 := hide h4
  have F4 := hide ((unhide F3).trans f4)
  have R4 := hide (f4.row (unhide R3) (by have := unhide GL; omega) (fun e => by have := unhide YL _ e; omega))
  clear h4 f4
  go_wp2
  go_ret
  exact ⟨rfl, _, fun _ => unhide H4, unhide F4⟩
set_option maxHeartbeats 8000000 in
theorem one_12 (B g : Nat) (y : Mv) (t : Ms) (st qr qa : Int) (w : World) (h : Sm w B g y t st) (hk : Dk t.d) (hq : t.d.ldB qr qa = true) : OnIs B g y t (t.one 12 qr qa) st 12 qr qa true w := by
  have hs : (0 : Int) ≤ 0 ∧ (0 : Int) ≤ 65535 := by omega
  have HQ := hide hq
  obtain ⟨s0, s1⟩ := hs
  have GL := hide (show g < w.heap.size from row_lt h.row)
  have YL := hide (fun b (hb : y.at b) => (h.own.lo hb).2)
  have H0 := hide ((h.later (below_new w (Obj.cells #[.int .i64 qr, .int .i64 qa] 97))).later (below_drew (w := (w.alloc (Obj.cells #[.int .i64 qr, .int .i64 qa] 97)))))
  have R0 := hide (row_lat (heap_alloc_last w (Obj.cells #[.int .i64 qr, .int .i64 qa] 97)) (below_drew (w := (w.alloc (Obj.cells #[.int .i64 qr, .int .i64 qa] 97)))))
  have BB := hide ((below_new w (Obj.cells #[.int .i64 qr, .int .i64 qa] 97)).trans ((below_drew (w := (w.alloc (Obj.cells #[.int .i64 qr, .int .i64 qa] 97)))).mono (by simp)))
  have LD := hide (fun v (r : RdM v y t.d) => loadS_any y t.d qr qa v (h.small hk) r)
  rw [hq] at LD
  have DB := hk.ldb qr qa
  have DK := hide hk
  unfold OnIs Ms.one
  generalize t.d.ldV qr qa = D at LD DB ⊢
  clear h hk hq
  obtain ⟨d0, d1⟩ := DB
  
  go_enter Tryz.func93, Tryz.ntmps93
  go_wp2_with fail
  refine wp_region_held_drew (S := fun v => v.heap[g]? = some (.cells y.cs 26 (0, 0)) ∧ v.heap[w.heap.size]? = some (.cells #[.int .i64 qr, .int .i64 qa] 97 (0, 0))) (by kernel_rfl) ⟨(unhide H0).row, unhide R0⟩ (fun hS => ?_)
  have HS := hide hS
  clear hS
  generalize (w.alloc (Obj.cells #[.int .i64 qr, .int .i64 qa] 97)).drew = wd at H0 R0 BB HS ⊢
  refine wpAnyH_take (i := 0) (v := .pointer (some ⟨g, 0, none⟩)) rfl (by kernel_rfl) (by kernel_rfl) (by kernel_rfl) (fun _ _ _ h => h) (Or.inl ⟨by rfl, fun w hc => ?_⟩) (unhide HS) ?_
  · clear hc; go_simp
  go_simp
  refine wpAnyH_take (i := 1) (v := .pointer (some ⟨g, 0, none⟩)) rfl (by kernel_rfl) (by kernel_rfl) (by kernel_rfl) (fun _ _ _ h => h) (Or.inl ⟨by rfl, fun w hc => ?_⟩) (unhide HS) ?_
  · clear hc; go_simp
  go_simp
  refine wpAnyH_take (i := 2) (v := .agg y.cs) rfl (by kernel_rfl) (by kernel_rfl) (by kernel_rfl) (fun _ _ _ h => h) (yields_load rfl 26 _ rfl g rfl 26 y.cs _ (fun w h => h.1) Tryz.underlying26 rfl (by kernel_rfl)) (unhide HS) ?_
  go_simp
  refine wpAnyH_take (i := 3) (v := .agg #[.int .i64 qr, .int .i64 qa]) rfl (by kernel_rfl) (by kernel_rfl) (by kernel_rfl) (fun _ _ _ h => h) (yields_load rfl 97 _ rfl w.heap.size rfl 97 #[.int .i64 qr, .int .i64 qa] _ (fun w h => h.2) Tryz.underlying97 rfl (by kernel_rfl)) (unhide HS) ?_
  go_simp
  refine wpAnyH_ready (rs := [4]) (by kernel_rfl) (by simp) ?_
  refine AllReadyH.cons rfl (fun K2 hK => ?_) (AllReadyH.nil)
  go_simp
  have P := hide (unhide LD wd (unhide H0).own.rd)
  refine (unhide P).mono ?_
  rintro e w2 ⟨rfl, hb⟩
  have H2 := hide ((unhide H0).later hb)
  have WD := hide (show w.heap.size < wd.heap.size from row_lt (unhide R0))
  have B2 := hide ((unhide BB).trans (hb.mono (by have := unhide WD; omega)))
  have R2 := hide (row_lat (unhide R0) hb)
  refine hK.out _ _ ⟨(unhide H2).row, unhide R2⟩ (fun hS => ?_)
  clear HS
  have HS := hide hS
  clear hS hK K2 hb P LD H0 R0 BB
  refine wpAnyH_take (i := 5) (v := .tuple #[.int .i64 D, .bool true]) rfl (by kernel_rfl) (by kernel_rfl) (by kernel_rfl) (fun _ _ _ h => h) (Or.inl ⟨by rfl, fun w hc => ?_⟩) (unhide HS) ?_
  · clear hc; go_simp
  go_simp
  refine wpAnyH_take (i := 6) (v := .int .i64 D) rfl (by kernel_rfl) (by kernel_rfl) (by kernel_rfl) (fun _ _ _ h => h) (Or.inl ⟨by rfl, fun w hc => ?_⟩) (unhide HS) ?_
  · clear hc; go_simp
  go_simp
  refine wpAnyH_take (i := 7) (v := .bool true) rfl (by kernel_rfl) (by kernel_rfl) (by kernel_rfl) (fun _ _ _ h => h) (Or.inl ⟨by rfl, fun w hc => ?_⟩) (unhide HS) ?_
  · clear hc; go_simp
  go_simp
  refine wpAnyH_take (i := 8) (v := .int .i64 D) rfl (by kernel_rfl) (by kernel_rfl) (by kernel_rfl) (fun _ _ _ h => h) (Or.inl ⟨by rfl, fun w hc => ?_⟩) (unhide HS) ?_
  · clear hc; go_simp
  go_simp
  refine wpAnyH_take (i := 9) (v := .bool true) rfl (by kernel_rfl) (by kernel_rfl) (by kernel_rfl) (fun _ _ _ h => h) (Or.inl ⟨by rfl, fun w hc => ?_⟩) (unhide HS) ?_
  · clear hc; go_simp
  go_simp
  refine wpAnyH_done (by kernel_rfl) ?_ _
  clear HS
  have SH := hide (shift_any B g y t st D qr qa 12 (by omega) w2 (unhide H2) (unhide DK) ⟨d0, d1⟩)
  unfold ShIs at SH
  rw [unhide HQ] at SH
  go_wp2_with (refine wpList_load_row rfl 97 _ rfl w.heap.size rfl 97 #[.int .i64 qr, .int .i64 qa] (0, 0) _ (unhide R2) Tryz.underlying97 rfl (by kernel_rfl) ?_)
  refine (unhide SH).mono ?_
  rintro e w7 ⟨rfl, y7, h7, f7⟩
  have H7 := hide h7
  have F7 := hide ((Fm.of (unhide B2)).trans f7)
  clear h7 f7 SH
  go_wp2
  go_ret
  exact ⟨rfl, y7, fun _ => unhide H7, unhide F7⟩
set_option maxHeartbeats 8000000 in
theorem one_13 (B g : Nat) (y : Mv) (t : Ms) (st qr qa : Int) (w : World) (h : Sm w B g y t st) (hk : Dk t.d) (hq : t.d.ldB qr qa = true) : OnIs B g y t (t.one 13 qr qa) st 13 qr qa true w := by
  have hs : (0 : Int) ≤ 0 ∧ (0 : Int) ≤ 65535 := by omega
  have HQ := hide hq
  obtain ⟨s0, s1⟩ := hs
  have GL := hide (show g < w.heap.size from row_lt h.row)
  have YL := hide (fun b (hb : y.at b) => (h.own.lo hb).2)
  have H0 := hide ((h.later (below_new w (Obj.cells #[.int .i64 qr, .int .i64 qa] 97))).later (below_drew (w := (w.alloc (Obj.cells #[.int .i64 qr, .int .i64 qa] 97)))))
  have R0 := hide (row_lat (heap_alloc_last w (Obj.cells #[.int .i64 qr, .int .i64 qa] 97)) (below_drew (w := (w.alloc (Obj.cells #[.int .i64 qr, .int .i64 qa] 97)))))
  have BB := hide ((below_new w (Obj.cells #[.int .i64 qr, .int .i64 qa] 97)).trans ((below_drew (w := (w.alloc (Obj.cells #[.int .i64 qr, .int .i64 qa] 97)))).mono (by simp)))
  have LD := hide (fun v (r : RdM v y t.d) => loadS_any y t.d qr qa v (h.small hk) r)
  rw [hq] at LD
  have DB := hk.ldb qr qa
  have DK := hide hk
  unfold OnIs Ms.one
  generalize t.d.ldV qr qa = D at LD DB ⊢
  clear h hk hq
  obtain ⟨d0, d1⟩ := DB
  
  go_enter Tryz.func93, Tryz.ntmps93
  go_wp2_with fail
  refine wp_region_held_drew (S := fun v => v.heap[g]? = some (.cells y.cs 26 (0, 0)) ∧ v.heap[w.heap.size]? = some (.cells #[.int .i64 qr, .int .i64 qa] 97 (0, 0))) (by kernel_rfl) ⟨(unhide H0).row, unhide R0⟩ (fun hS => ?_)
  have HS := hide hS
  clear hS
  generalize (w.alloc (Obj.cells #[.int .i64 qr, .int .i64 qa] 97)).drew = wd at H0 R0 BB HS ⊢
  refine wpAnyH_take (i := 0) (v := .pointer (some ⟨g, 0, none⟩)) rfl (by kernel_rfl) (by kernel_rfl) (by kernel_rfl) (fun _ _ _ h => h) (Or.inl ⟨by rfl, fun w hc => ?_⟩) (unhide HS) ?_
  · clear hc; go_simp
  go_simp
  refine wpAnyH_take (i := 1) (v := .pointer (some ⟨g, 0, none⟩)) rfl (by kernel_rfl) (by kernel_rfl) (by kernel_rfl) (fun _ _ _ h => h) (Or.inl ⟨by rfl, fun w hc => ?_⟩) (unhide HS) ?_
  · clear hc; go_simp
  go_simp
  refine wpAnyH_take (i := 2) (v := .agg y.cs) rfl (by kernel_rfl) (by kernel_rfl) (by kernel_rfl) (fun _ _ _ h => h) (yields_load rfl 26 _ rfl g rfl 26 y.cs _ (fun w h => h.1) Tryz.underlying26 rfl (by kernel_rfl)) (unhide HS) ?_
  go_simp
  refine wpAnyH_take (i := 3) (v := .agg #[.int .i64 qr, .int .i64 qa]) rfl (by kernel_rfl) (by kernel_rfl) (by kernel_rfl) (fun _ _ _ h => h) (yields_load rfl 97 _ rfl w.heap.size rfl 97 #[.int .i64 qr, .int .i64 qa] _ (fun w h => h.2) Tryz.underlying97 rfl (by kernel_rfl)) (unhide HS) ?_
  go_simp
  refine wpAnyH_ready (rs := [4]) (by kernel_rfl) (by simp) ?_
  refine AllReadyH.cons rfl (fun K2 hK => ?_) (AllReadyH.nil)
  go_simp
  have P := hide (unhide LD wd (unhide H0).own.rd)
  refine (unhide P).mono ?_
  rintro e w2 ⟨rfl, hb⟩
  have H2 := hide ((unhide H0).later hb)
  have WD := hide (show w.heap.size < wd.heap.size from row_lt (unhide R0))
  have B2 := hide ((unhide BB).trans (hb.mono (by have := unhide WD; omega)))
  have R2 := hide (row_lat (unhide R0) hb)
  refine hK.out _ _ ⟨(unhide H2).row, unhide R2⟩ (fun hS => ?_)
  clear HS
  have HS := hide hS
  clear hS hK K2 hb P LD H0 R0 BB
  refine wpAnyH_take (i := 5) (v := .tuple #[.int .i64 D, .bool true]) rfl (by kernel_rfl) (by kernel_rfl) (by kernel_rfl) (fun _ _ _ h => h) (Or.inl ⟨by rfl, fun w hc => ?_⟩) (unhide HS) ?_
  · clear hc; go_simp
  go_simp
  refine wpAnyH_take (i := 6) (v := .int .i64 D) rfl (by kernel_rfl) (by kernel_rfl) (by kernel_rfl) (fun _ _ _ h => h) (Or.inl ⟨by rfl, fun w hc => ?_⟩) (unhide HS) ?_
  · clear hc; go_simp
  go_simp
  refine wpAnyH_take (i := 7) (v := .bool true) rfl (by kernel_rfl) (by kernel_rfl) (by kernel_rfl) (fun _ _ _ h => h) (Or.inl ⟨by rfl, fun w hc => ?_⟩) (unhide HS) ?_
  · clear hc; go_simp
  go_simp
  refine wpAnyH_take (i := 8) (v := .int .i64 D) rfl (by kernel_rfl) (by kernel_rfl) (by kernel_rfl) (fun _ _ _ h => h) (Or.inl ⟨by rfl, fun w hc => ?_⟩) (unhide HS) ?_
  · clear hc; go_simp
  go_simp
  refine wpAnyH_take (i := 9) (v := .bool true) rfl (by kernel_rfl) (by kernel_rfl) (by kernel_rfl) (fun _ _ _ h => h) (Or.inl ⟨by rfl, fun w hc => ?_⟩) (unhide HS) ?_
  · clear hc; go_simp
  go_simp
  refine wpAnyH_done (by kernel_rfl) ?_ _
  clear HS
  have SH := hide (shift_any B g y t st D qr qa 13 (by omega) w2 (unhide H2) (unhide DK) ⟨d0, d1⟩)
  unfold ShIs at SH
  rw [unhide HQ] at SH
  go_wp2_with (refine wpList_load_row rfl 97 _ rfl w.heap.size rfl 97 #[.int .i64 qr, .int .i64 qa] (0, 0) _ (unhide R2) Tryz.underlying97 rfl (by kernel_rfl) ?_)
  refine (unhide SH).mono ?_
  rintro e w7 ⟨rfl, y7, h7, f7⟩
  have H7 := hide h7
  have F7 := hide ((Fm.of (unhide B2)).trans f7)
  clear h7 f7 SH
  go_wp2
  go_ret
  exact ⟨rfl, y7, fun _ => unhide H7, unhide F7⟩
/-- An instruction of one operand by the model. -/
theorem one_any (B g : Nat) (y : Mv) (t : Ms) (st qr qa : Int) (op : Nat) (ho : 7 ≤ op ∧ op ≤ 13) (w : World) (h : Sm w B g y t st) (hk : Dk t.d) : OnIs B g y t (t.one op qr qa) st op qr qa (t.d.ldB qr qa) w := by
  obtain ⟨q, hq⟩ : ∃ q, t.d.ldB qr qa = q := ⟨_, rfl⟩
  rw [hq]
  cases q
  · exact one_n B g y t st qr qa w op _ h hk hq
  · have e : op = 7 ∨ op = 8 ∨ op = 9 ∨ op = 10 ∨ op = 11 ∨ op = 12 ∨ op = 13 := by omega
    rcases e with rfl | rfl | rfl | rfl | rfl | rfl | rfl
    · exact one_7 B g y t st qr qa w h hk hq
    · exact one_8 B g y t st qr qa w h hk hq
    · exact one_9 B g y t st qr qa w h hk hq
    · exact one_10 B g y t st qr qa w h hk hq
    · exact one_11 B g y t st qr qa w h hk hq
    · exact one_12 B g y t st qr qa w h hk hq
    · exact one_13 B g y t st qr qa w h hk hq
end Go.Proofs.YtjpbjbnialehbaaGreatDoor

namespace Go.Proofs.YtjpbjbnialehbaaGreatDoor
section
variable {P : Program} {ops : Array Oper} {Q : Exit → Act → World → Prop} {md : Region.Mode} {S : World → Prop} {last : Nat}
/-- Whatever order is picked from here on; S holds behind each operation, as long as 'last' has not come up. -/
def wpAnyL (P : Program) (md : Region.Mode) (ops : Array Oper) (Q : Exit → Act → World → Prop) (S : World → Prop) (last : Nat) : Nat → Array Bool → Act → World → Prop
  | 0, listed, a, w => Region.ready md ops listed = [] ∧ Q .normal a w
  | fuel + 1, listed, a, w =>
    (Region.ready md ops listed = [] → Q .normal a w) ∧
    ∀ i ∈ Region.ready md ops listed, wpOp P ops Q i (fun a' w' => ((listed.setIfInBounds i true).getD last true = false → S w') ∧ wpAnyL P md ops Q S last fuel (listed.setIfInBounds i true) a' w') a w
theorem wpAny_of_last : ∀ (fuel : Nat) (listed : Array Bool) (a : Act) (w : World), wpAnyL P md ops Q S last fuel listed a w → wpAny P md ops Q fuel listed a w
  | 0, _, _, _, h => h
  | fuel + 1, _, _, _, h => ⟨h.1, fun i hi => wpOp_mono (fun a' w' h' => wpAny_of_last fuel _ a' w' h'.2) (h.2 i hi)⟩
/-- Whether 'last' waits for i. -/
def lastB (md : Region.Mode) (ops : Array Oper) (last i : Nat) : Bool := ((ops[last]?).map fun o => o.after.any fun e => Region.binds md e && e.on == i).getD false
theorem lastB_spec {i : Nat} (h : lastB md ops last i = true) : ∀ ol, ops[last]? = some ol → ∃ e ∈ ol.after, Region.binds md e = true ∧ e.on = i := by
  intro ol ho
  unfold lastB at h
  rw [ho] at h
  simp only [Option.map_some, Option.getD_some] at h
  obtain ⟨e, he, hb⟩ := Array.any_eq_true'.1 h
  simp only [Bool.and_eq_true, beq_iff_eq] at hb
  exact ⟨e, he, hb.1, hb.2⟩
theorem wpAnyL_firstS {i : Nat} {oi : Oper} {v : Value} (hi : ops[i]? = some oi) (hsel : ∀ (j : Nat) (o : Oper) cs b, ops[j]? = some o → o.op ≠ .select cs b)
    (hQ : ∀ c a w, Q (.panic c) (a.put oi.dst v) w → Q (.panic c) a w) (hil : i ≠ last) (hl : ∀ ol, ops[last]? = some ol → ∃ e ∈ ol.after, Region.binds md e = true ∧ e.on = i) :
    ∀ (fuel : Nat) (listed : Array Bool) (a : Act) (w : World),
      (∀ j oj, ops[j]? = some oj → j ≠ i → listed.getD j true = false → (∀ e ∈ oj.after, Region.binds md e = true → e.on ≠ i) → oi.apart ops oj = true) →
      i ∈ Region.ready md ops listed → YieldsIf P ops S oi v a → S w → listed.getD last true = false →
      wpAnyL P md ops Q S last fuel (listed.setIfInBounds i true) (a.put oi.dst v) w → wpAnyL P md ops Q S last (fuel + 1) listed a w := by
  intro fuel
  induction fuel with
  | zero =>
    intro listed a w _ hr hy hS hp H
    refine ⟨fun h => (by rw [h] at hr; cases hr), fun j hj => ?_⟩
    by_cases hji : j = i
    · subst hji; exact hy.wpOp hi hS ⟨fun _ => hS, H⟩
    · have := ready_mono hj hji
      rw [H.1] at this
      cases this
  | succ fuel ih =>
    intro listed a w hfree hr hy hS hp H
    refine ⟨fun h => (by rw [h] at hr; cases hr), fun j hj => ?_⟩
    by_cases hji : j = i
    · subst hji; exact hy.wpOp hi hS ⟨fun _ => hS, H⟩
    · have h1 := H.2 j (ready_mono hj hji)
      obtain ⟨hjun, oj, hoj, hall⟩ := mem_ready.1 hj
      have hnot : ∀ e ∈ oj.after, Region.binds md e = true → e.on ≠ i := fun e he hb heq => by
        have h1 := hall e he hb
        have h0 := (mem_ready.1 hr).1
        rw [heq] at h1
        rcases Nat.lt_or_ge i listed.size with h' | h'
        · simp [h'] at h0 h1; rw [h0] at h1; cases h1
        · simp [Array.getElem?_eq_none h'] at h1
      have hjl : j ≠ last := fun e => by
        subst e
        obtain ⟨e, he, hb, ho⟩ := hl oj hoj
        exact hnot e he hb ho
      have h2 := wpOp_putIf hoj (hfree j oj hoj hji hjun hnot) (fun cs b => hsel i oi cs b hi) (fun cs b => hsel j oj cs b hoj) hQ hy h1
      have hfree' : ∀ k ok, ops[k]? = some ok → k ≠ i → (listed.setIfInBounds j true).getD k true = false →
          (∀ e ∈ ok.after, Region.binds md e = true → e.on ≠ i) → oi.apart ops ok = true := fun k ok hk hki hun hno => by
        refine hfree k ok hk hki ?_ hno
        by_cases hjk : j = k
        · subst hjk; exact hjun
        · rw [getD_set_ne true hjk] at hun; exact hun
      have hp' : (listed.setIfInBounds j true).getD last true = false := by rw [getD_set_ne true hjl]; exact hp
      have hp2 : ((listed.setIfInBounds i true).setIfInBounds j true).getD last true = false := by rw [getD_set_ne true hjl, getD_set_ne true hil]; exact hp
      refine wpOp_mono (fun a' w' h3 => ⟨fun _ => h3.2.1 hp2, ih (listed.setIfInBounds j true) a' w' hfree' (ready_mono hr (Ne.symm hji)) h3.1 (h3.2.1 hp2) hp' ?_⟩) h2
      rw [Array.setIfInBounds_comm _ _ hji]
      exact h3.2.2
theorem wpAnyL_firstW {i : Nat} {oi : Oper} {v : Value} (hi : ops[i]? = some oi) (hsel : ∀ (j : Nat) (o : Oper) cs b, ops[j]? = some o → o.op ≠ .select cs b)
    (hQ : ∀ c a w, Q (.panic c) (a.put oi.dst v) w → Q (.panic c) a w) (hil : i ≠ last) :
    ∀ (fuel : Nat) (listed : Array Bool) (a : Act) (w : World),
      (∀ j oj, ops[j]? = some oj → j ≠ i → listed.getD j true = false → (∀ e ∈ oj.after, Region.binds md e = true → e.on ≠ i) → oi.apart ops oj = true) →
      i ∈ Region.ready md ops listed → YieldsIf P ops (fun _ => True) oi v a → (listed.getD last true = false → S w) →
      wpAnyL P md ops Q S last fuel (listed.setIfInBounds i true) (a.put oi.dst v) w → wpAnyL P md ops Q S last (fuel + 1) listed a w := by
  intro fuel
  induction fuel with
  | zero =>
    intro listed a w _ hr hy hS H
    refine ⟨fun h => (by rw [h] at hr; cases hr), fun j hj => ?_⟩
    by_cases hji : j = i
    · subst hji; exact hy.wpOp hi trivial ⟨fun h => hS (by rw [getD_set_ne true hil] at h; exact h), H⟩
    · have := ready_mono hj hji
      rw [H.1] at this
      cases this
  | succ fuel ih =>
    intro listed a w hfree hr hy hS H
    refine ⟨fun h => (by rw [h] at hr; cases hr), fun j hj => ?_⟩
    by_cases hji : j = i
    · subst hji; exact hy.wpOp hi trivial ⟨fun h => hS (by rw [getD_set_ne true hil] at h; exact h), H⟩
    · have h1 := H.2 j (ready_mono hj hji)
      obtain ⟨hjun, oj, hoj, hall⟩ := mem_ready.1 hj
      have hnot : ∀ e ∈ oj.after, Region.binds md e = true → e.on ≠ i := fun e he hb heq => by
        have h1 := hall e he hb
        have h0 := (mem_ready.1 hr).1
        rw [heq] at h1
        rcases Nat.lt_or_ge i listed.size with h' | h'
        · simp [h'] at h0 h1; rw [h0] at h1; cases h1
        · simp [Array.getElem?_eq_none h'] at h1
      have h2 := wpOp_putIf hoj (hfree j oj hoj hji hjun hnot) (fun cs b => hsel i oi cs b hi) (fun cs b => hsel j oj cs b hoj) hQ hy h1
      have hfree' : ∀ k ok, ops[k]? = some ok → k ≠ i → (listed.setIfInBounds j true).getD k true = false →
          (∀ e ∈ ok.after, Region.binds md e = true → e.on ≠ i) → oi.apart ops ok = true := fun k ok hk hki hun hno => by
        refine hfree k ok hk hki ?_ hno
        by_cases hjk : j = k
        · subst hjk; exact hjun
        · rw [getD_set_ne true hjk] at hun; exact hun
      have hs2 : ∀ w', ((((listed.setIfInBounds i true).setIfInBounds j true).getD last true = false) → S w') → ((listed.setIfInBounds j true).getD last true = false → S w') := fun w' h hp => h (by
        rw [Array.setIfInBounds_comm _ _ (Ne.symm hji), getD_set_ne true hil]; exact hp)
      refine wpOp_mono (fun a' w' h3 => ⟨hs2 w' h3.2.1, ih (listed.setIfInBounds j true) a' w' hfree' (ready_mono hr (Ne.symm hji)) h3.1 (hs2 w' h3.2.1) ?_⟩) h2
      rw [Array.setIfInBounds_comm _ _ hji]
      exact h3.2.2
/-- Take number i first: it reads what S says, and 'last' waits for it. -/
theorem wpAnyL_takeS {i : Nat} {oi : Oper} {v : Value} {fuel : Nat} {listed : Array Bool} {a : Act} {w : World} (hi : ops[i]? = some oi)
    (hs : Region.noSelect ops = true) (hf : Region.free md ops listed i = true) (hr : (Region.ready md ops listed).contains i = true) (hb : lastB md ops last i = true) (hl : (decide (i ≠ last) && !listed.getD last true) = true)
    (hQ : ∀ c a w, Q (.panic c) (a.put oi.dst v) w → Q (.panic c) a w) (hy : YieldsIf P ops S oi v a) (hS : S w)
    (h : wpAnyL P md ops Q S last fuel (listed.setIfInBounds i true) (a.put oi.dst v) w) : wpAnyL P md ops Q S last (fuel + 1) listed a w := by
  simp only [Bool.and_eq_true, decide_eq_true_eq, Bool.not_eq_true'] at hl
  exact wpAnyL_firstS hi (Region.noSelect_spec hs) hQ hl.1 (lastB_spec hb) fuel listed a w (Region.free_spec hi hf) (by simpa using hr) hy hS hl.2 h
/-- Take number i first: it yields its value in whatever world. -/
theorem wpAnyL_takeW {i : Nat} {oi : Oper} {v : Value} {fuel : Nat} {listed : Array Bool} {a : Act} {w : World} (hi : ops[i]? = some oi)
    (hs : Region.noSelect ops = true) (hf : Region.free md ops listed i = true) (hr : (Region.ready md ops listed).contains i = true) (hl : decide (i ≠ last) = true)
    (hQ : ∀ c a w, Q (.panic c) (a.put oi.dst v) w → Q (.panic c) a w) (hy : YieldsIf P ops (fun _ => True) oi v a) (hS : S w ∨ listed.getD last true = true)
    (h : wpAnyL P md ops Q S last fuel (listed.setIfInBounds i true) (a.put oi.dst v) w) : wpAnyL P md ops Q S last (fuel + 1) listed a w :=
  wpAnyL_firstW hi (Region.noSelect_spec hs) hQ (by simpa using hl) fuel listed a w (Region.free_spec hi hf) (by simpa using hr) hy (fun hp => hS.elim id (fun e => by rw [e] at hp; cases hp)) h
/-- Whether a waits for i, by whatever way. -/
def waitB (md : Region.Mode) (ops : Array Oper) (i : Nat) : Nat → Nat → Bool
  | 0, _ => false
  | n + 1, a => ((ops[a]?).map fun o => o.after.any fun e => Region.binds md e && (e.on == i || waitB md ops i n e.on)).getD false
/-- What has come up has all that it waits for. -/
def closedB (md : Region.Mode) (ops : Array Oper) (listed : Array Bool) : Bool := (List.range ops.size).all fun j => !listed.getD j false || ((ops[j]?).map fun o => o.after.all fun e => !Region.binds md e || listed.getD e.on false).getD true
def Closed (md : Region.Mode) (ops : Array Oper) (listed : Array Bool) : Prop := ∀ j o, ops[j]? = some o → listed.getD j false = true → ∀ e ∈ o.after, Region.binds md e = true → listed.getD e.on false = true
theorem closed_of {listed : Array Bool} (h : closedB md ops listed = true) : Closed md ops listed := by
  intro j o ho hj e he hb
  unfold closedB at h
  rw [List.all_eq_true] at h
  have q := h j (List.mem_range.2 (Array.getElem?_eq_some_iff.1 ho).1)
  rw [hj, ho] at q
  simp only [Bool.not_true, Bool.false_or, Option.map_some, Option.getD_some] at q
  have r := Array.all_eq_true_iff_forall_mem.1 q e he
  rw [hb] at r
  simpa using r
theorem wait_listed {listed : Array Bool} (hc : Closed md ops listed) {i : Nat} : ∀ (n a : Nat) (o : Oper), waitB md ops i n a = true → ops[a]? = some o → (∀ e ∈ o.after, Region.binds md e = true → listed.getD e.on false = true) → listed.getD i false = true
  | 0, _, _, h, _, _ => by simp [waitB] at h
  | n + 1, a, o, h, ho, hd => by
    unfold waitB at h
    rw [ho] at h
    simp only [Option.map_some, Option.getD_some] at h
    obtain ⟨e, he, hb⟩ := Array.any_eq_true'.1 h
    simp only [Bool.and_eq_true, Bool.or_eq_true, beq_iff_eq] at hb
    have l := hd e he hb.1
    rcases hb.2 with h1 | h1
    · rw [← h1]; exact l
    · cases ho2 : ops[e.on]? with
      | none => cases n <;> simp [waitB, ho2] at h1
      | some o2 => exact wait_listed hc n e.on o2 h1 ho2 (hc e.on o2 ho2 l)
theorem Closed.step {listed : Array Bool} (h : Closed md ops listed) {j : Nat} (hj : j ∈ Region.ready md ops listed) : Closed md ops (listed.setIfInBounds j true) := by
  intro k o ho hk e he hb
  obtain ⟨hjun, oj, hoj, hall⟩ := mem_ready.1 hj
  have key : listed.getD e.on false = true := by
    by_cases hkj : k = j
    · subst hkj
      rw [hoj] at ho
      cases ho
      exact hall e he hb
    · refine h k o ho ?_ e he hb
      simp only [Array.getD_eq_getD_getElem?] at hk ⊢
      rw [Array.getElem?_setIfInBounds_ne (fun c => hkj c.symm)] at hk
      exact hk
  by_cases hej : e.on = j
  · rw [hej]
    have hlt : j < listed.size := by
      rcases Nat.lt_or_ge j listed.size with h' | h'
      · exact h'
      · rw [← hej] at h'
        simp [Array.getElem?_eq_none h'] at key
    simp [hlt]
  · simp only [Array.getD_eq_getD_getElem?] at key ⊢
    rw [Array.getElem?_setIfInBounds_ne (fun c => hej c.symm)]
    exact key
theorem wpAnyL_firstT {i : Nat} {oi : Oper} {v : Value} (hi : ops[i]? = some oi) (hsel : ∀ (j : Nat) (o : Oper) cs b, ops[j]? = some o → o.op ≠ .select cs b)
    (hQ : ∀ c a w, Q (.panic c) (a.put oi.dst v) w → Q (.panic c) a w) (hil : i ≠ last) (n : Nat) (hl : waitB md ops i n last = true) :
    ∀ (fuel : Nat) (listed : Array Bool) (a : Act) (w : World),
      (∀ j oj, ops[j]? = some oj → j ≠ i → listed.getD j true = false → (∀ e ∈ oj.after, Region.binds md e = true → e.on ≠ i) → oi.apart ops oj = true) →
      i ∈ Region.ready md ops listed → YieldsIf P ops S oi v a → S w → listed.getD last true = false → Closed md ops listed →
      wpAnyL P md ops Q S last fuel (listed.setIfInBounds i true) (a.put oi.dst v) w → wpAnyL P md ops Q S last (fuel + 1) listed a w := by
  intro fuel
  induction fuel with
  | zero =>
    intro listed a w _ hr hy hS hp hcl H
    refine ⟨fun h => (by rw [h] at hr; cases hr), fun j hj => ?_⟩
    by_cases hji : j = i
    · subst hji; exact hy.wpOp hi hS ⟨fun _ => hS, H⟩
    · have := ready_mono hj hji
      rw [H.1] at this
      cases this
  | succ fuel ih =>
    intro listed a w hfree hr hy hS hp hcl H
    refine ⟨fun h => (by rw [h] at hr; cases hr), fun j hj => ?_⟩
    by_cases hji : j = i
    · subst hji; exact hy.wpOp hi hS ⟨fun _ => hS, H⟩
    · have h1 := H.2 j (ready_mono hj hji)
      obtain ⟨hjun, oj, hoj, hall⟩ := mem_ready.1 hj
      have hiu : listed.getD i false ≠ true := fun c => by
        have h0 := (mem_ready.1 hr).1
        rcases Nat.lt_or_ge i listed.size with h' | h'
        · simp [h'] at h0 c; rw [h0] at c; cases c
        · simp [Array.getElem?_eq_none h'] at c
      have hnot : ∀ e ∈ oj.after, Region.binds md e = true → e.on ≠ i := fun e he hb heq => hiu (by rw [← heq]; exact hall e he hb)
      have hjl : j ≠ last := fun e => by
        subst e
        exact hiu (wait_listed hcl n j oj hl hoj hall)
      have h2 := wpOp_putIf hoj (hfree j oj hoj hji hjun hnot) (fun cs b => hsel i oi cs b hi) (fun cs b => hsel j oj cs b hoj) hQ hy h1
      have hfree' : ∀ k ok, ops[k]? = some ok → k ≠ i → (listed.setIfInBounds j true).getD k true = false →
          (∀ e ∈ ok.after, Region.binds md e = true → e.on ≠ i) → oi.apart ops ok = true := fun k ok hk hki hun hno => by
        refine hfree k ok hk hki ?_ hno
        by_cases hjk : j = k
        · subst hjk; exact hjun
        · rw [getD_set_ne true hjk] at hun; exact hun
      have hp' : (listed.setIfInBounds j true).getD last true = false := by rw [getD_set_ne true hjl]; exact hp
      have hp2 : ((listed.setIfInBounds i true).setIfInBounds j true).getD last true = false := by rw [getD_set_ne true hjl, getD_set_ne true hil]; exact hp
      refine wpOp_mono (fun a' w' h3 => ⟨fun _ => h3.2.1 hp2, ih (listed.setIfInBounds j true) a' w' hfree' (ready_mono hr (Ne.symm hji)) h3.1 (h3.2.1 hp2) hp' (hcl.step hj) ?_⟩) h2
      rw [Array.setIfInBounds_comm _ _ hji]
      exact h3.2.2
/-- Take number i first: it reads what S says, and 'last' waits for it by whatever way. (One closed fact for all that is to be reckoned.) -/
def chkT (md : Region.Mode) (ops : Array Oper) (last i : Nat) (listed : Array Bool) : Bool := Region.noSelect ops && (Region.free md ops listed i && ((Region.ready md ops listed).contains i && (waitB md ops i ops.size last && (decide (i ≠ last) && (!listed.getD last true && closedB md ops listed)))))
theorem tkT {i : Nat} {oi : Oper} {v : Value} {fuel : Nat} {listed : Array Bool} {a : Act} {w : World} (hi : ops[i]? = some oi) (hc : chkT md ops last i listed = true)
    (hQ : ∀ c a w, Q (.panic c) (a.put oi.dst v) w → Q (.panic c) a w) (hy : YieldsIf P ops S oi v a) (hS : S w)
    (h : wpAnyL P md ops Q S last fuel (listed.setIfInBounds i true) (a.put oi.dst v) w) : wpAnyL P md ops Q S last (fuel + 1) listed a w := by
  unfold chkT at hc
  simp only [Bool.and_eq_true, decide_eq_true_eq, Bool.not_eq_true'] at hc
  obtain ⟨hs, hf, hr, hb, hl, hp, hcl⟩ := hc
  exact wpAnyL_firstT hi (Region.noSelect_spec hs) hQ hl ops.size hb fuel listed a w (Region.free_spec hi hf) (by simpa using hr) hy hS hp (closed_of hcl) h
def chkW (md : Region.Mode) (ops : Array Oper) (last i : Nat) (listed : Array Bool) : Bool := Region.noSelect ops && (Region.free md ops listed i && ((Region.ready md ops listed).contains i && decide (i ≠ last)))
theorem tkW {i : Nat} {oi : Oper} {v : Value} {fuel : Nat} {listed : Array Bool} {a : Act} {w : World} (hi : ops[i]? = some oi) (hc : chkW md ops last i listed = true)
    (hQ : ∀ c a w, Q (.panic c) (a.put oi.dst v) w → Q (.panic c) a w) (hy : YieldsIf P ops (fun _ => True) oi v a) (hS : S w ∨ listed.getD last true = true)
    (h : wpAnyL P md ops Q S last fuel (listed.setIfInBounds i true) (a.put oi.dst v) w) : wpAnyL P md ops Q S last (fuel + 1) listed a w := by
  unfold chkW at hc
  simp only [Bool.and_eq_true, decide_eq_true_eq] at hc
  exact wpAnyL_takeW hi hc.1 hc.2.1 hc.2.2.1 (by simpa using hc.2.2.2) hQ hy hS h
/-- One operation alone may come up. -/
theorem wpAnyL_one {i : Nat} {o : Oper} {fuel : Nat} {listed : Array Bool} {a : Act} {w : World} (hr : Region.ready md ops listed = [i]) (ho : ops[i]? = some o)
    (h : ∀ K' : Act → World → Prop, Shut (∀ a w, ((listed.setIfInBounds i true).getD last true = false → S w) → wpAnyL P md ops Q S last fuel (listed.setIfInBounds i true) a w → K' a w) → if Region.wanted o (yielded ops a.tmps) = true then Oper.wp P o a w K' Q else K' (a.put o.dst undef) w) :
    wpAnyL P md ops Q S last (fuel + 1) listed a w := by
  refine ⟨fun h0 => (by rw [hr] at h0; cases h0), fun j hj => ?_⟩
  rw [hr] at hj
  obtain rfl : j = i := by simpa using hj
  exact wpOp_step ho (fun K' hK => h K' (fun a w hS hW => hK a w ⟨hS, hW⟩))
theorem wpAnyL_done {listed : Array Bool} {a : Act} {w : World} (hr : Region.ready md ops listed = []) (h : Q .normal a w) : ∀ fuel, wpAnyL P md ops Q S last fuel listed a w
  | 0 => ⟨hr, h⟩
  | _ + 1 => ⟨fun _ => h, by rw [hr]; simp⟩
theorem wp_region_last {id : Nat} {a : Act} {w : World} (S : World → Prop) (last : Nat) (hm : P.follows .mixedOrders = true) (h : wpAnyL P .any ops Q S last ops.size (Array.replicate ops.size false) a w.drew) : (Code.region id ops true).wp P Q a w :=
  wp_region_any hm (wpAny_of_last _ _ _ _ h)
end
end Go.Proofs.YtjpbjbnialehbaaGreatDoor

namespace Go.Proofs.YtjpbjbnialehbaaGreatDoor
open Go.ChangeShapes Go.WideShapes Go.ChangeAt Go.RowKit
set_option linter.unusedVariables false
set_option maxRecDepth 8000
set_option linter.unusedSimpArgs false
def Ms.rg (t : Ms) (k : Nat) (v : Int) : Ms := { t with d := t.d.reg k v }
theorem Ms.rg_len (t : Ms) (k : Nat) (v : Int) : (t.rg k v).d.r.length = t.d.r.length := by unfold Ms.rg Md.reg; simp
section
variable {w : World} {B g gr rc : Nat} {y : Mv} {t : Ms} {st : Int}
theorem Sm.regs (h : Sm w B g y t st) (h8 : t.d.r.length = 8) : ∃ gr rc, y.r = ⟨some ⟨gr, 0, none⟩, 8, rc⟩ := by
  obtain ⟨a, b, e⟩ := sl_formP h.own.r (by omega)
  exact ⟨a, b, by rw [e, h8]⟩
theorem at_r (er : y.r = ⟨some ⟨gr, 0, none⟩, 8, rc⟩) : y.at gr := .inr (.inl (by rw [er]; rfl))
theorem Sm.setR (h : Sm w B g y t st) (er : y.r = ⟨some ⟨gr, 0, none⟩, 8, rc⟩) (k : Nat) (v : Int) (hk : k < t.d.r.length) :
    Sm (w.setCell ⟨gr, k, none⟩ (.int .i64 v)) B g y (t.rg k v) st ∧ Fm w (w.setCell ⟨gr, k, none⟩ (.int .i64 v)) g y y ∧ w.cell? ⟨gr, k, none⟩ = some (.int .i64 (nAt t.d.r k)) ∧ w.frozen? ⟨gr, k, none⟩ = false := by
  obtain ⟨o3, g3, _, _, c1, c2⟩ := own_setR h.own er k v hk
  exact ⟨⟨row_past h.row g3 (h.ne gr (at_r er)), o3, h.fl, h.lo, h.ne⟩, Fm.grown g3 (.inr (at_r er)) (fun _ e => e), c1, c2⟩
theorem Sm.rcell (h : Sm w B g y t st) (er : y.r = ⟨some ⟨gr, 0, none⟩, 8, rc⟩) : w.cell? ⟨g, 1, none⟩ = some (.slice (some ⟨gr, 0, none⟩) 8 rc) := by rw [row_r h.row, er]
theorem Sm.flz (h : Sm w B g y t st) : t.n = y.n ∧ t.z = y.z ∧ t.v = y.v ∧ t.c = y.c := by
  have := h.fl
  unfold Mv.fl Ms.fl at this
  simp at this
  exact ⟨this.1.symm, this.2.1.symm, this.2.2.1.symm, this.2.2.2.1.symm⟩
end
theorem ins_n {w : World} {g : Nat} {op a1 a2 a3 b1 b2 b3 n : Int} (h : w.heap[g]? = some (.cells #[.int .i64 op, .int .i64 a1, .int .i64 a2, .int .i64 a3, .int .i64 b1, .int .i64 b2, .int .i64 b3, .int .i64 n] 69 (0, 0))) : w.cell? ⟨g, 7, none⟩ = some (.int .i64 n) := (cell_of_row w g 7 _ 69 _ h).trans rfl
theorem ins_op {w : World} {g : Nat} {op a1 a2 a3 b1 b2 b3 n : Int} (h : w.heap[g]? = some (.cells #[.int .i64 op, .int .i64 a1, .int .i64 a2, .int .i64 a3, .int .i64 b1, .int .i64 b2, .int .i64 b3, .int .i64 n] 69 (0, 0))) : w.cell? ⟨g, 0, none⟩ = some (.int .i64 op) := (cell_of_row w g 0 _ 69 _ h).trans rfl
def Ms.goes (t : Ms) (op : Nat) : Bool := match op with | 18 => !t.z | 19 => t.z | 20 => t.n == t.v | 21 => t.n != t.v | _ => true
def Ms.branch (t : Ms) (op : Nat) (n : Int) : Ms := if t.goes op = true then t.rg 7 ((nAt t.d.r 7 + 2 * n) % 65536) else t
def BrIs (B g : Nat) (y : Mv) (t t2 : Ms) (st op a1 a2 a3 b1 b2 b3 n : Int) (w : World) : Prop :=
  Calls Tryz.prog 95 #[.pointer (some ⟨g, 0, none⟩), .agg #[.int .i64 op, .int .i64 a1, .int .i64 a2, .int .i64 a3, .int .i64 b1, .int .i64 b2, .int .i64 b3, .int .i64 n]] w fun e w' => e = .returned (.tuple #[]) ∧ Sm w' B g y t2 st ∧ Fm w w' g y y
set_option maxHeartbeats 8000000 in
theorem br_17 (B g : Nat) (y : Mv) (t : Ms) (st a1 a2 a3 b1 b2 b3 n : Int) (w : World) (h : Sm w B g y t st) (hk : Dk t.d) (hn : -1000 ≤ n ∧ n ≤ 1000) : BrIs B g y t (t.branch 17 n) st 17 a1 a2 a3 b1 b2 b3 n w := by
  obtain ⟨n0, n1⟩ := hn
  obtain ⟨gr, rc, er⟩ := h.regs hk.rl
  obtain ⟨v0, v1⟩ := hk.rw _ (nAt_mem (show 7 < t.d.r.length by have := hk.rl; omega))
  have GR := hide (show gr < w.heap.size from (h.own.lo (at_r er)).2)
  have H0 := hide (h.later (below_new w (Obj.cells #[.int .i64 17, .int .i64 a1, .int .i64 a2, .int .i64 a3, .int .i64 b1, .int .i64 b2, .int .i64 b3, .int .i64 n] 69)))
  have F0 := hide (Fm.of (g := g) (y := y) (below_new w (Obj.cells #[.int .i64 17, .int .i64 a1, .int .i64 a2, .int .i64 a3, .int .i64 b1, .int .i64 b2, .int .i64 b3, .int .i64 n] 69)))
  have R0 := hide (heap_alloc_last w (Obj.cells #[.int .i64 17, .int .i64 a1, .int .i64 a2, .int .i64 a3, .int .i64 b1, .int .i64 b2, .int .i64 b3, .int .i64 n] 69))
  obtain ⟨tn, tz, tv, -⟩ := h.flz
  have WR := hide (fun v => wrapS_any (nAt t.d.r 7 + 2 * n) v)
  have HW := hide (show IntKind.i64.wrap (nAt t.d.r 7 + 2 * n) = nAt t.d.r 7 + 2 * n by rw [IntKind.wrap_i64]; omega)
  have HW2 := hide (show IntKind.i64.wrap (2 * n) = 2 * n by rw [IntKind.wrap_i64]; omega)
  have SR := hide (fun v (p : Sm v B g y t st) => And.intro (p.rcell er) (p.setR er 7 ((nAt t.d.r 7 + 2 * n) % 65536) (by have := hk.rl; omega)))
  have o0 := ins_op (unhide R0)
  unfold BrIs Ms.branch Ms.goes
  simp only [tn, tz, tv]
  generalize t.rg 7 ((nAt t.d.r 7 + 2 * n) % 65536) = t7 at SR ⊢
  generalize (nAt t.d.r 7 + 2 * n) % 65536 = x at WR SR
  generalize nAt t.d.r 7 = v7 at WR SR HW
  clear h hk er tn tz tv v0 v1
  simp only [if_true]
  go_enter Tryz.func95, Tryz.ntmps95
  go_wp2_with fail
  have HD := hide ((unhide H0).later (below_drew (w := (w.alloc (Obj.cells #[.int .i64 17, .int .i64 a1, .int .i64 a2, .int .i64 a3, .int .i64 b1, .int .i64 b2, .int .i64 b3, .int .i64 n] 69)))))
  have FD := hide ((unhide F0).trans (Fm.of (below_drew (w := (w.alloc (Obj.cells #[.int .i64 17, .int .i64 a1, .int .i64 a2, .int .i64 a3, .int .i64 b1, .int .i64 b2, .int .i64 b3, .int .i64 n] 69))))))
  have RD := hide (row_lat (unhide R0) (below_drew (w := (w.alloc (Obj.cells #[.int .i64 17, .int .i64 a1, .int .i64 a2, .int .i64 a3, .int .i64 b1, .int .i64 b2, .int .i64 b3, .int .i64 n] 69)))))
  have c2 := ins_n (unhide RD)
  obtain ⟨c1, h1, f1, c3, c4⟩ := unhide SR _ (unhide HD)
  have H1 := hide h1
  have F1 := hide ((unhide FD).trans f1)
  clear h1 f1 SR
  refine wp_region_last (fun v => v = (w.alloc (Obj.cells #[.int .i64 17, .int .i64 a1, .int .i64 a2, .int .i64 a3, .int .i64 b1, .int .i64 b2, .int .i64 b3, .int .i64 n] 69)).drew) 16 (by kernel_rfl) ?_
  generalize (w.alloc (Obj.cells #[.int .i64 17, .int .i64 a1, .int .i64 a2, .int .i64 a3, .int .i64 b1, .int .i64 b2, .int .i64 b3, .int .i64 n] 69)).drew = wd at HD FD RD H1 F1 c1 c2 c3 c4 ⊢
  refine tkW (i := 0) (v := .pointer (some ⟨g, 0, none⟩)) rfl (by kernel_rfl) (fun _ _ _ h => h) (.inl ⟨by rfl, fun w hc => ?_⟩) (.inl rfl) ?_
  · clear hc; go_simp
  go_simp
  refine tkW (i := 1) (v := .pointer (some ⟨g, 0, none⟩)) rfl (by kernel_rfl) (fun _ _ _ h => h) (.inl ⟨by rfl, fun w hc => ?_⟩) (.inl rfl) ?_
  · clear hc; go_simp
  go_simp
  refine tkW (i := 2) (v := .pointer (some ⟨g, 1, none⟩)) rfl (by kernel_rfl) (fun _ _ _ h => h) (.inl ⟨by rfl, fun w hc => ?_⟩) (.inl rfl) ?_
  · clear hc; go_simp
  go_simp
  refine tkT (i := 3) (v := .slice (some ⟨gr, 0, none⟩) 8 rc) rfl (by kernel_rfl) (fun _ _ _ h => h) (.inl ⟨by rfl, fun w hc => ?_⟩) (rfl) ?_
  · rw [hc]; clear hc; go_simp
  go_simp
  refine tkW (i := 4) (v := .pointer (some ⟨g, 0, none⟩)) rfl (by kernel_rfl) (fun _ _ _ h => h) (.inl ⟨by rfl, fun w hc => ?_⟩) (.inl rfl) ?_
  · clear hc; go_simp
  go_simp
  refine tkW (i := 5) (v := .pointer (some ⟨g, 0, none⟩)) rfl (by kernel_rfl) (fun _ _ _ h => h) (.inl ⟨by rfl, fun w hc => ?_⟩) (.inl rfl) ?_
  · clear hc; go_simp
  go_simp
  refine tkW (i := 6) (v := .pointer (some ⟨g, 1, none⟩)) rfl (by kernel_rfl) (fun _ _ _ h => h) (.inl ⟨by rfl, fun w hc => ?_⟩) (.inl rfl) ?_
  · clear hc; go_simp
  go_simp
  refine tkT (i := 7) (v := .slice (some ⟨gr, 0, none⟩) 8 rc) rfl (by kernel_rfl) (fun _ _ _ h => h) (.inl ⟨by rfl, fun w hc => ?_⟩) (rfl) ?_
  · rw [hc]; clear hc; go_simp
  go_simp
  refine tkW (i := 8) (v := .pointer (some ⟨gr, 7, none⟩)) rfl (by kernel_rfl) (fun _ _ _ h => h) (.inl ⟨by rfl, fun w hc => ?_⟩) (.inl rfl) ?_
  · clear hc; go_simp
  go_simp
  refine tkT (i := 9) (v := .int .i64 v7) rfl (by kernel_rfl) (fun _ _ _ h => h) (.inl ⟨by rfl, fun w hc => ?_⟩) (rfl) ?_
  · rw [hc]; clear hc; go_simp
  go_simp
  refine tkW (i := 10) (v := .pointer (some ⟨w.heap.size, 7, none⟩)) rfl (by kernel_rfl) (fun _ _ _ h => h) (.inl ⟨by rfl, fun w hc => ?_⟩) (.inl rfl) ?_
  · clear hc; go_simp
  go_simp
  refine tkT (i := 11) (v := .int .i64 n) rfl (by kernel_rfl) (fun _ _ _ h => h) (.inl ⟨by rfl, fun w hc => ?_⟩) (rfl) ?_
  · rw [hc]; clear hc; go_simp
  go_simp
  refine tkW (i := 12) (v := .int .i64 (2 * n)) rfl (by kernel_rfl) (fun _ _ _ h => h) (.inl ⟨by rfl, fun w hc => ?_⟩) (.inl rfl) ?_
  · clear hc; have hw := unhide HW2; go_simp
  go_simp
  refine tkW (i := 13) (v := .int .i64 (v7 + 2 * n)) rfl (by kernel_rfl) (fun _ _ _ h => h) (.inl ⟨by rfl, fun w hc => ?_⟩) (.inl rfl) ?_
  · clear hc; have hw := unhide HW; go_simp
  go_simp
  refine wpAnyL_one (i := 14) (by kernel_rfl) rfl (fun K2 hK => ?_)
  go_simp
  refine (unhide WR _).mono ?_
  rintro e w9 ⟨rfl, hw9⟩
  rw [hw9]
  clear hw9 w9
  refine hK.out _ _ (fun _ => rfl) ?_
  clear hK K2
  refine tkW (i := 15) (v := .pointer (some ⟨gr, 7, none⟩)) rfl (by kernel_rfl) (fun _ _ _ h => h) (.inl ⟨by rfl, fun w hc => ?_⟩) (.inl rfl) ?_
  · clear hc; go_simp
  go_simp
  refine wpAnyL_one (i := 16) (by kernel_rfl) rfl (fun K2 hK => ?_)
  go_simp
  refine hK.out _ _ (fun h => absurd h (by decide)) ?_
  clear hK K2
  refine wpAnyL_done (by kernel_rfl) ?_ _
  generalize wd.setCell ⟨gr, 7, none⟩ (.int .i64 x) = w5 at H1 F1 ⊢
  go_wp2
  go_end0
  exact ⟨rfl, unhide H1, unhide F1⟩
set_option maxHeartbeats 8000000 in
theorem br_18 (B g : Nat) (y : Mv) (t : Ms) (st a1 a2 a3 b1 b2 b3 n : Int) (w : World) (h : Sm w B g y t st) (hk : Dk t.d) (hn : -1000 ≤ n ∧ n ≤ 1000) : BrIs B g y t (t.branch 18 n) st 18 a1 a2 a3 b1 b2 b3 n w := by
  obtain ⟨n0, n1⟩ := hn
  obtain ⟨gr, rc, er⟩ := h.regs hk.rl
  obtain ⟨v0, v1⟩ := hk.rw _ (nAt_mem (show 7 < t.d.r.length by have := hk.rl; omega))
  have GR := hide (show gr < w.heap.size from (h.own.lo (at_r er)).2)
  have H0 := hide (h.later (below_new w (Obj.cells #[.int .i64 18, .int .i64 a1, .int .i64 a2, .int .i64 a3, .int .i64 b1, .int .i64 b2, .int .i64 b3, .int .i64 n] 69)))
  have F0 := hide (Fm.of (g := g) (y := y) (below_new w (Obj.cells #[.int .i64 18, .int .i64 a1, .int .i64 a2, .int .i64 a3, .int .i64 b1, .int .i64 b2, .int .i64 b3, .int .i64 n] 69)))
  have R0 := hide (heap_alloc_last w (Obj.cells #[.int .i64 18, .int .i64 a1, .int .i64 a2, .int .i64 a3, .int .i64 b1, .int .i64 b2, .int .i64 b3, .int .i64 n] 69))
  obtain ⟨tn, tz, tv, -⟩ := h.flz
  have WR := hide (fun v => wrapS_any (nAt t.d.r 7 + 2 * n) v)
  have HW := hide (show IntKind.i64.wrap (nAt t.d.r 7 + 2 * n) = nAt t.d.r 7 + 2 * n by rw [IntKind.wrap_i64]; omega)
  have HW2 := hide (show IntKind.i64.wrap (2 * n) = 2 * n by rw [IntKind.wrap_i64]; omega)
  have SR := hide (fun v (p : Sm v B g y t st) => And.intro (p.rcell er) (p.setR er 7 ((nAt t.d.r 7 + 2 * n) % 65536) (by have := hk.rl; omega)))
  have o0 := ins_op (unhide R0)
  unfold BrIs Ms.branch Ms.goes
  simp only [tn, tz, tv]
  generalize t.rg 7 ((nAt t.d.r 7 + 2 * n) % 65536) = t7 at SR ⊢
  generalize (nAt t.d.r 7 + 2 * n) % 65536 = x at WR SR
  generalize nAt t.d.r 7 = v7 at WR SR HW
  have cf := row_z (unhide H0).row
  generalize y.z = bz at cf ⊢
  clear h hk er tn tz tv v0 v1
  cases bz
  · skip
    go_enter Tryz.func95, Tryz.ntmps95
    go_wp2_with fail
    have HD := hide ((unhide H0).later (below_drew (w := (w.alloc (Obj.cells #[.int .i64 18, .int .i64 a1, .int .i64 a2, .int .i64 a3, .int .i64 b1, .int .i64 b2, .int .i64 b3, .int .i64 n] 69)))))
    have FD := hide ((unhide F0).trans (Fm.of (below_drew (w := (w.alloc (Obj.cells #[.int .i64 18, .int .i64 a1, .int .i64 a2, .int .i64 a3, .int .i64 b1, .int .i64 b2, .int .i64 b3, .int .i64 n] 69))))))
    have RD := hide (row_lat (unhide R0) (below_drew (w := (w.alloc (Obj.cells #[.int .i64 18, .int .i64 a1, .int .i64 a2, .int .i64 a3, .int .i64 b1, .int .i64 b2, .int .i64 b3, .int .i64 n] 69)))))
    have c2 := ins_n (unhide RD)
    obtain ⟨c1, h1, f1, c3, c4⟩ := unhide SR _ (unhide HD)
    have H1 := hide h1
    have F1 := hide ((unhide FD).trans f1)
    clear h1 f1 SR
    refine wp_region_last (fun v => v = (w.alloc (Obj.cells #[.int .i64 18, .int .i64 a1, .int .i64 a2, .int .i64 a3, .int .i64 b1, .int .i64 b2, .int .i64 b3, .int .i64 n] 69)).drew) 16 (by kernel_rfl) ?_
    generalize (w.alloc (Obj.cells #[.int .i64 18, .int .i64 a1, .int .i64 a2, .int .i64 a3, .int .i64 b1, .int .i64 b2, .int .i64 b3, .int .i64 n] 69)).drew = wd at HD FD RD H1 F1 c1 c2 c3 c4 ⊢
    refine tkW (i := 0) (v := .pointer (some ⟨g, 0, none⟩)) rfl (by kernel_rfl) (fun _ _ _ h => h) (.inl ⟨by rfl, fun w hc => ?_⟩) (.inl rfl) ?_
    · clear hc; go_simp
    go_simp
    refine tkW (i := 1) (v := .pointer (some ⟨g, 0, none⟩)) rfl (by kernel_rfl) (fun _ _ _ h => h) (.inl ⟨by rfl, fun w hc => ?_⟩) (.inl rfl) ?_
    · clear hc; go_simp
    go_simp
    refine tkW (i := 2) (v := .pointer (some ⟨g, 1, none⟩)) rfl (by kernel_rfl) (fun _ _ _ h => h) (.inl ⟨by rfl, fun w hc => ?_⟩) (.inl rfl) ?_
    · clear hc; go_simp
    go_simp
    refine tkT (i := 3) (v := .slice (some ⟨gr, 0, none⟩) 8 rc) rfl (by kernel_rfl) (fun _ _ _ h => h) (.inl ⟨by rfl, fun w hc => ?_⟩) (rfl) ?_
    · rw [hc]; clear hc; go_simp
    go_simp
    refine tkW (i := 4) (v := .pointer (some ⟨g, 0, none⟩)) rfl (by kernel_rfl) (fun _ _ _ h => h) (.inl ⟨by rfl, fun w hc => ?_⟩) (.inl rfl) ?_
    · clear hc; go_simp
    go_simp
    refine tkW (i := 5) (v := .pointer (some ⟨g, 0, none⟩)) rfl (by kernel_rfl) (fun _ _ _ h => h) (.inl ⟨by rfl, fun w hc => ?_⟩) (.inl rfl) ?_
    · clear hc; go_simp
    go_simp
    refine tkW (i := 6) (v := .pointer (some ⟨g, 1, none⟩)) rfl (by kernel_rfl) (fun _ _ _ h => h) (.inl ⟨by rfl, fun w hc => ?_⟩) (.inl rfl) ?_
    · clear hc; go_simp
    go_simp
    refine tkT (i := 7) (v := .slice (some ⟨gr, 0, none⟩) 8 rc) rfl (by kernel_rfl) (fun _ _ _ h => h) (.inl ⟨by rfl, fun w hc => ?_⟩) (rfl) ?_
    · rw [hc]; clear hc; go_simp
    go_simp
    refine tkW (i := 8) (v := .pointer (some ⟨gr, 7, none⟩)) rfl (by kernel_rfl) (fun _ _ _ h => h) (.inl ⟨by rfl, fun w hc => ?_⟩) (.inl rfl) ?_
    · clear hc; go_simp
    go_simp
    refine tkT (i := 9) (v := .int .i64 v7) rfl (by kernel_rfl) (fun _ _ _ h => h) (.inl ⟨by rfl, fun w hc => ?_⟩) (rfl) ?_
    · rw [hc]; clear hc; go_simp
    go_simp
    refine tkW (i := 10) (v := .pointer (some ⟨w.heap.size, 7, none⟩)) rfl (by kernel_rfl) (fun _ _ _ h => h) (.inl ⟨by rfl, fun w hc => ?_⟩) (.inl rfl) ?_
    · clear hc; go_simp
    go_simp
    refine tkT (i := 11) (v := .int .i64 n) rfl (by kernel_rfl) (fun _ _ _ h => h) (.inl ⟨by rfl, fun w hc => ?_⟩) (rfl) ?_
    · rw [hc]; clear hc; go_simp
    go_simp
    refine tkW (i := 12) (v := .int .i64 (2 * n)) rfl (by kernel_rfl) (fun _ _ _ h => h) (.inl ⟨by rfl, fun w hc => ?_⟩) (.inl rfl) ?_
    · clear hc; have hw := unhide HW2; go_simp
    go_simp
    refine tkW (i := 13) (v := .int .i64 (v7 + 2 * n)) rfl (by kernel_rfl) (fun _ _ _ h => h) (.inl ⟨by rfl, fun w hc => ?_⟩) (.inl rfl) ?_
    · clear hc; have hw := unhide HW; go_simp
    go_simp
    refine wpAnyL_one (i := 14) (by kernel_rfl) rfl (fun K2 hK => ?_)
    go_simp
    refine (unhide WR _).mono ?_
    rintro e w9 ⟨rfl, hw9⟩
    rw [hw9]
    clear hw9 w9
    refine hK.out _ _ (fun _ => rfl) ?_
    clear hK K2
    refine tkW (i := 15) (v := .pointer (some ⟨gr, 7, none⟩)) rfl (by kernel_rfl) (fun _ _ _ h => h) (.inl ⟨by rfl, fun w hc => ?_⟩) (.inl rfl) ?_
    · clear hc; go_simp
    go_simp
    refine wpAnyL_one (i := 16) (by kernel_rfl) rfl (fun K2 hK => ?_)
    go_simp
    refine hK.out _ _ (fun h => absurd h (by decide)) ?_
    clear hK K2
    refine wpAnyL_done (by kernel_rfl) ?_ _
    generalize wd.setCell ⟨gr, 7, none⟩ (.int .i64 x) = w5 at H1 F1 ⊢
    go_wp2
    go_end0
    exact ⟨rfl, unhide H1, unhide F1⟩
  · skip
    go_enter Tryz.func95, Tryz.ntmps95
    go_wp2
    go_end0
    exact ⟨rfl, unhide H0, unhide F0⟩
set_option maxHeartbeats 8000000 in
theorem br_19 (B g : Nat) (y : Mv) (t : Ms) (st a1 a2 a3 b1 b2 b3 n : Int) (w : World) (h : Sm w B g y t st) (hk : Dk t.d) (hn : -1000 ≤ n ∧ n ≤ 1000) : BrIs B g y t (t.branch 19 n) st 19 a1 a2 a3 b1 b2 b3 n w := by
  obtain ⟨n0, n1⟩ := hn
  obtain ⟨gr, rc, er⟩ := h.regs hk.rl
  obtain ⟨v0, v1⟩ := hk.rw _ (nAt_mem (show 7 < t.d.r.length by have := hk.rl; omega))
  have GR := hide (show gr < w.heap.size from (h.own.lo (at_r er)).2)
  have H0 := hide (h.later (below_new w (Obj.cells #[.int .i64 19, .int .i64 a1, .int .i64 a2, .int .i64 a3, .int .i64 b1, .int .i64 b2, .int .i64 b3, .int .i64 n] 69)))
  have F0 := hide (Fm.of (g := g) (y := y) (below_new w (Obj.cells #[.int .i64 19, .int .i64 a1, .int .i64 a2, .int .i64 a3, .int .i64 b1, .int .i64 b2, .int .i64 b3, .int .i64 n] 69)))
  have R0 := hide (heap_alloc_last w (Obj.cells #[.int .i64 19, .int .i64 a1, .int .i64 a2, .int .i64 a3, .int .i64 b1, .int .i64 b2, .int .i64 b3, .int .i64 n] 69))
  obtain ⟨tn, tz, tv, -⟩ := h.flz
  have WR := hide (fun v => wrapS_any (nAt t.d.r 7 + 2 * n) v)
  have HW := hide (show IntKind.i64.wrap (nAt t.d.r 7 + 2 * n) = nAt t.d.r 7 + 2 * n by rw [IntKind.wrap_i64]; omega)
  have HW2 := hide (show IntKind.i64.wrap (2 * n) = 2 * n by rw [IntKind.wrap_i64]; omega)
  have SR := hide (fun v (p : Sm v B g y t st) => And.intro (p.rcell er) (p.setR er 7 ((nAt t.d.r 7 + 2 * n) % 65536) (by have := hk.rl; omega)))
  have o0 := ins_op (unhide R0)
  unfold BrIs Ms.branch Ms.goes
  simp only [tn, tz, tv]
  generalize t.rg 7 ((nAt t.d.r 7 + 2 * n) % 65536) = t7 at SR ⊢
  generalize (nAt t.d.r 7 + 2 * n) % 65536 = x at WR SR
  generalize nAt t.d.r 7 = v7 at WR SR HW
  have cf := row_z (unhide H0).row
  generalize y.z = bz at cf ⊢
  clear h hk er tn tz tv v0 v1
  cases bz
  · skip
    go_enter Tryz.func95, Tryz.ntmps95
    go_wp2
    go_end0
    exact ⟨rfl, unhide H0, unhide F0⟩
  · skip
    go_enter Tryz.func95, Tryz.ntmps95
    go_wp2_with fail
    have HD := hide ((unhide H0).later (below_drew (w := (w.alloc (Obj.cells #[.int .i64 19, .int .i64 a1, .int .i64 a2, .int .i64 a3, .int .i64 b1, .int .i64 b2, .int .i64 b3, .int .i64 n] 69)))))
    have FD := hide ((unhide F0).trans (Fm.of (below_drew (w := (w.alloc (Obj.cells #[.int .i64 19, .int .i64 a1, .int .i64 a2, .int .i64 a3, .int .i64 b1, .int .i64 b2, .int .i64 b3, .int .i64 n] 69))))))
    have RD := hide (row_lat (unhide R0) (below_drew (w := (w.alloc (Obj.cells #[.int .i64 19, .int .i64 a1, .int .i64 a2, .int .i64 a3, .int .i64 b1, .int .i64 b2, .int .i64 b3, .int .i64 n] 69)))))
    have c2 := ins_n (unhide RD)
    obtain ⟨c1, h1, f1, c3, c4⟩ := unhide SR _ (unhide HD)
    have H1 := hide h1
    have F1 := hide ((unhide FD).trans f1)
    clear h1 f1 SR
    refine wp_region_last (fun v => v = (w.alloc (Obj.cells #[.int .i64 19, .int .i64 a1, .int .i64 a2, .int .i64 a3, .int .i64 b1, .int .i64 b2, .int .i64 b3, .int .i64 n] 69)).drew) 16 (by kernel_rfl) ?_
    generalize (w.alloc (Obj.cells #[.int .i64 19, .int .i64 a1, .int .i64 a2, .int .i64 a3, .int .i64 b1, .int .i64 b2, .int .i64 b3, .int .i64 n] 69)).drew = wd at HD FD RD H1 F1 c1 c2 c3 c4 ⊢
    refine tkW (i := 0) (v := .pointer (some ⟨g, 0, none⟩)) rfl (by kernel_rfl) (fun _ _ _ h => h) (.inl ⟨by rfl, fun w hc => ?_⟩) (.inl rfl) ?_
    · clear hc; go_simp
    go_simp
    refine tkW (i := 1) (v := .pointer (some ⟨g, 0, none⟩)) rfl (by kernel_rfl) (fun _ _ _ h => h) (.inl ⟨by rfl, fun w hc => ?_⟩) (.inl rfl) ?_
    · clear hc; go_simp
    go_simp
    refine tkW (i := 2) (v := .pointer (some ⟨g, 1, none⟩)) rfl (by kernel_rfl) (fun _ _ _ h => h) (.inl ⟨by rfl, fun w hc => ?_⟩) (.inl rfl) ?_
    · clear hc; go_simp
    go_simp
    refine tkT (i := 3) (v := .slice (some ⟨gr, 0, none⟩) 8 rc) rfl (by kernel_rfl) (fun _ _ _ h => h) (.inl ⟨by rfl, fun w hc => ?_⟩) (rfl) ?_
    · rw [hc]; clear hc; go_simp
    go_simp
    refine tkW (i := 4) (v := .pointer (some ⟨g, 0, none⟩)) rfl (by kernel_rfl) (fun _ _ _ h => h) (.inl ⟨by rfl, fun w hc => ?_⟩) (.inl rfl) ?_
    · clear hc; go_simp
    go_simp
    refine tkW (i := 5) (v := .pointer (some ⟨g, 0, none⟩)) rfl (by kernel_rfl) (fun _ _ _ h => h) (.inl ⟨by rfl, fun w hc => ?_⟩) (.inl rfl) ?_
    · clear hc; go_simp
    go_simp
    refine tkW (i := 6) (v := .pointer (some ⟨g, 1, none⟩)) rfl (by kernel_rfl) (fun _ _ _ h => h) (.inl ⟨by rfl, fun w hc => ?_⟩) (.inl rfl) ?_
    · clear hc; go_simp
    go_simp
    refine tkT (i := 7) (v := .slice (some ⟨gr, 0, none⟩) 8 rc) rfl (by kernel_rfl) (fun _ _ _ h => h) (.inl ⟨by rfl, fun w hc => ?_⟩) (rfl) ?_
    · rw [hc]; clear hc; go_simp
    go_simp
    refine tkW (i := 8) (v := .pointer (some ⟨gr, 7, none⟩)) rfl (by kernel_rfl) (fun _ _ _ h => h) (.inl ⟨by rfl, fun w hc => ?_⟩) (.inl rfl) ?_
    · clear hc; go_simp
    go_simp
    refine tkT (i := 9) (v := .int .i64 v7) rfl (by kernel_rfl) (fun _ _ _ h => h) (.inl ⟨by rfl, fun w hc => ?_⟩) (rfl) ?_
    · rw [hc]; clear hc; go_simp
    go_simp
    refine tkW (i := 10) (v := .pointer (some ⟨w.heap.size, 7, none⟩)) rfl (by kernel_rfl) (fun _ _ _ h => h) (.inl ⟨by rfl, fun w hc => ?_⟩) (.inl rfl) ?_
    · clear hc; go_simp
    go_simp
    refine tkT (i := 11) (v := .int .i64 n) rfl (by kernel_rfl) (fun _ _ _ h => h) (.inl ⟨by rfl, fun w hc => ?_⟩) (rfl) ?_
    · rw [hc]; clear hc; go_simp
    go_simp
    refine tkW (i := 12) (v := .int .i64 (2 * n)) rfl (by kernel_rfl) (fun _ _ _ h => h) (.inl ⟨by rfl, fun w hc => ?_⟩) (.inl rfl) ?_
    · clear hc; have hw := unhide HW2; go_simp
    go_simp
    refine tkW (i := 13) (v := .int .i64 (v7 + 2 * n)) rfl (by kernel_rfl) (fun _ _ _ h => h) (.inl ⟨by rfl, fun w hc => ?_⟩) (.inl rfl) ?_
    · clear hc; have hw := unhide HW; go_simp
    go_simp
    refine wpAnyL_one (i := 14) (by kernel_rfl) rfl (fun K2 hK => ?_)
    go_simp
    refine (unhide WR _).mono ?_
    rintro e w9 ⟨rfl, hw9⟩
    rw [hw9]
    clear hw9 w9
    refine hK.out _ _ (fun _ => rfl) ?_
    clear hK K2
    refine tkW (i := 15) (v := .pointer (some ⟨gr, 7, none⟩)) rfl (by kernel_rfl) (fun _ _ _ h => h) (.inl ⟨by rfl, fun w hc => ?_⟩) (.inl rfl) ?_
    · clear hc; go_simp
    go_simp
    refine wpAnyL_one (i := 16) (by kernel_rfl) rfl (fun K2 hK => ?_)
    go_simp
    refine hK.out _ _ (fun h => absurd h (by decide)) ?_
    clear hK K2
    refine wpAnyL_done (by kernel_rfl) ?_ _
    generalize wd.setCell ⟨gr, 7, none⟩ (.int .i64 x) = w5 at H1 F1 ⊢
    go_wp2
    go_end0
    exact ⟨rfl, unhide H1, unhide F1⟩
set_option maxHeartbeats 8000000 in
theorem br_20 (B g : Nat) (y : Mv) (t : Ms) (st a1 a2 a3 b1 b2 b3 n : Int) (w : World) (h : Sm w B g y t st) (hk : Dk t.d) (hn : -1000 ≤ n ∧ n ≤ 1000) : BrIs B g y t (t.branch 20 n) st 20 a1 a2 a3 b1 b2 b3 n w := by
  obtain ⟨n0, n1⟩ := hn
  obtain ⟨gr, rc, er⟩ := h.regs hk.rl
  obtain ⟨v0, v1⟩ := hk.rw _ (nAt_mem (show 7 < t.d.r.length by have := hk.rl; omega))
  have GR := hide (show gr < w.heap.size from (h.own.lo (at_r er)).2)
  have H0 := hide (h.later (below_new w (Obj.cells #[.int .i64 20, .int .i64 a1, .int .i64 a2, .int .i64 a3, .int .i64 b1, .int .i64 b2, .int .i64 b3, .int .i64 n] 69)))
  have F0 := hide (Fm.of (g := g) (y := y) (below_new w (Obj.cells #[.int .i64 20, .int .i64 a1, .int .i64 a2, .int .i64 a3, .int .i64 b1, .int .i64 b2, .int .i64 b3, .int .i64 n] 69)))
  have R0 := hide (heap_alloc_last w (Obj.cells #[.int .i64 20, .int .i64 a1, .int .i64 a2, .int .i64 a3, .int .i64 b1, .int .i64 b2, .int .i64 b3, .int .i64 n] 69))
  obtain ⟨tn, tz, tv, -⟩ := h.flz
  have WR := hide (fun v => wrapS_any (nAt t.d.r 7 + 2 * n) v)
  have HW := hide (show IntKind.i64.wrap (nAt t.d.r 7 + 2 * n) = nAt t.d.r 7 + 2 * n by rw [IntKind.wrap_i64]; omega)
  have HW2 := hide (show IntKind.i64.wrap (2 * n) = 2 * n by rw [IntKind.wrap_i64]; omega)
  have SR := hide (fun v (p : Sm v B g y t st) => And.intro (p.rcell er) (p.setR er 7 ((nAt t.d.r 7 + 2 * n) % 65536) (by have := hk.rl; omega)))
  have o0 := ins_op (unhide R0)
  unfold BrIs Ms.branch Ms.goes
  simp only [tn, tz, tv]
  generalize t.rg 7 ((nAt t.d.r 7 + 2 * n) % 65536) = t7 at SR ⊢
  generalize (nAt t.d.r 7 + 2 * n) % 65536 = x at WR SR
  generalize nAt t.d.r 7 = v7 at WR SR HW
  have cn := hide (And.intro (row_n ((unhide H0).later (below_drew (w := w.alloc (Obj.cells #[.int .i64 20, .int .i64 a1, .int .i64 a2, .int .i64 a3, .int .i64 b1, .int .i64 b2, .int .i64 b3, .int .i64 n] 69)))).row) (row_v ((unhide H0).later (below_drew (w := w.alloc (Obj.cells #[.int .i64 20, .int .i64 a1, .int .i64 a2, .int .i64 a3, .int .i64 b1, .int .i64 b2, .int .i64 b3, .int .i64 n] 69)))).row))
  generalize y.n = bn at cn ⊢
  generalize y.v = bv at cn ⊢
  clear h hk er tn tz tv v0 v1
  have HQ := hide ((unhide H0).later (below_drew (w := (w.alloc (Obj.cells #[.int .i64 20, .int .i64 a1, .int .i64 a2, .int .i64 a3, .int .i64 b1, .int .i64 b2, .int .i64 b3, .int .i64 n] 69)))))
  have FQ := hide ((unhide F0).trans (Fm.of (below_drew (w := (w.alloc (Obj.cells #[.int .i64 20, .int .i64 a1, .int .i64 a2, .int .i64 a3, .int .i64 b1, .int .i64 b2, .int .i64 b3, .int .i64 n] 69))))))
  have RQ := hide (row_lat (unhide R0) (below_drew (w := (w.alloc (Obj.cells #[.int .i64 20, .int .i64 a1, .int .i64 a2, .int .i64 a3, .int .i64 b1, .int .i64 b2, .int .i64 b3, .int .i64 n] 69)))))
  generalize hb : (bn == bv) = bb
  go_enter Tryz.func95, Tryz.ntmps95
  go_wp2_with fail
  refine wp_region_last (fun v => v.cell? ⟨g, 2, none⟩ = some (.bool bn) ∧ v.cell? ⟨g, 4, none⟩ = some (.bool bv)) 9 (by kernel_rfl) ?_
  generalize (w.alloc (Obj.cells #[.int .i64 20, .int .i64 a1, .int .i64 a2, .int .i64 a3, .int .i64 b1, .int .i64 b2, .int .i64 b3, .int .i64 n] 69)).drew = wq at HQ FQ RQ cn ⊢
  refine tkW (i := 0) (v := .pointer (some ⟨g, 0, none⟩)) rfl (by kernel_rfl) (fun _ _ _ h => h) (.inl ⟨by rfl, fun w hc => ?_⟩) (.inl (unhide cn)) ?_
  · clear hc; go_simp
  go_simp
  refine tkW (i := 1) (v := .pointer (some ⟨g, 0, none⟩)) rfl (by kernel_rfl) (fun _ _ _ h => h) (.inl ⟨by rfl, fun w hc => ?_⟩) (.inl (unhide cn)) ?_
  · clear hc; go_simp
  go_simp
  refine tkW (i := 2) (v := .pointer (some ⟨g, 2, none⟩)) rfl (by kernel_rfl) (fun _ _ _ h => h) (.inl ⟨by rfl, fun w hc => ?_⟩) (.inl (unhide cn)) ?_
  · clear hc; go_simp
  go_simp
  refine tkT (i := 3) (v := .bool bn) rfl (by kernel_rfl) (fun _ _ _ h => h) (.inl ⟨by rfl, fun w hc => ?_⟩) (unhide cn) ?_
  · obtain ⟨h1, h2⟩ := hc; go_simp
  go_simp
  refine tkW (i := 4) (v := .pointer (some ⟨g, 0, none⟩)) rfl (by kernel_rfl) (fun _ _ _ h => h) (.inl ⟨by rfl, fun w hc => ?_⟩) (.inl (unhide cn)) ?_
  · clear hc; go_simp
  go_simp
  refine tkW (i := 5) (v := .pointer (some ⟨g, 0, none⟩)) rfl (by kernel_rfl) (fun _ _ _ h => h) (.inl ⟨by rfl, fun w hc => ?_⟩) (.inl (unhide cn)) ?_
  · clear hc; go_simp
  go_simp
  refine tkW (i := 6) (v := .pointer (some ⟨g, 4, none⟩)) rfl (by kernel_rfl) (fun _ _ _ h => h) (.inl ⟨by rfl, fun w hc => ?_⟩) (.inl (unhide cn)) ?_
  · clear hc; go_simp
  go_simp
  refine tkT (i := 7) (v := .bool bv) rfl (by kernel_rfl) (fun _ _ _ h => h) (.inl ⟨by rfl, fun w hc => ?_⟩) (unhide cn) ?_
  · obtain ⟨h1, h2⟩ := hc; go_simp
  go_simp
  refine tkW (i := 8) (v := .bool (bn == bv)) rfl (by kernel_rfl) (fun _ _ _ h => h) (.inl ⟨by rfl, fun w hc => ?_⟩) (.inl (unhide cn)) ?_
  · clear hc; go_simp
  go_simp
  refine wpAnyL_one (i := 9) (by kernel_rfl) rfl (fun K2 hK => ?_)
  go_simp
  refine hK.out _ _ (fun h => absurd h (by decide)) ?_
  clear hK K2
  refine wpAnyL_done (by kernel_rfl) ?_ _
  try rw [hb]
  cases bb
  · go_wp2
    go_end0
    exact ⟨rfl, unhide HQ, unhide FQ⟩
  · go_wp2_with fail
    have HD := hide ((unhide HQ).later (below_drew (w := wq)))
    have FD := hide ((unhide FQ).trans (Fm.of (below_drew (w := wq))))
    have RD := hide (row_lat (unhide RQ) (below_drew (w := wq)))
    have c2 := ins_n (unhide RD)
    obtain ⟨c1, h1, f1, c3, c4⟩ := unhide SR _ (unhide HD)
    have H1 := hide h1
    have F1 := hide ((unhide FD).trans f1)
    clear h1 f1 SR
    refine wp_region_last (fun v => v = wq.drew) 16 (by kernel_rfl) ?_
    generalize wq.drew = wd at HD FD RD H1 F1 c1 c2 c3 c4 ⊢
    refine tkW (i := 0) (v := .pointer (some ⟨g, 0, none⟩)) rfl (by kernel_rfl) (fun _ _ _ h => h) (.inl ⟨by rfl, fun w hc => ?_⟩) (.inl rfl) ?_
    · clear hc; go_simp
    go_simp
    refine tkW (i := 1) (v := .pointer (some ⟨g, 0, none⟩)) rfl (by kernel_rfl) (fun _ _ _ h => h) (.inl ⟨by rfl, fun w hc => ?_⟩) (.inl rfl) ?_
    · clear hc; go_simp
    go_simp
    refine tkW (i := 2) (v := .pointer (some ⟨g, 1, none⟩)) rfl (by kernel_rfl) (fun _ _ _ h => h) (.inl ⟨by rfl, fun w hc => ?_⟩) (.inl rfl) ?_
    · clear hc; go_simp
    go_simp
    refine tkT (i := 3) (v := .slice (some ⟨gr, 0, none⟩) 8 rc) rfl (by kernel_rfl) (fun _ _ _ h => h) (.inl ⟨by rfl, fun w hc => ?_⟩) (rfl) ?_
    · rw [hc]; clear hc; go_simp
    go_simp
    refine tkW (i := 4) (v := .pointer (some ⟨g, 0, none⟩)) rfl (by kernel_rfl) (fun _ _ _ h => h) (.inl ⟨by rfl, fun w hc => ?_⟩) (.inl rfl) ?_
    · clear hc; go_simp
    go_simp
    refine tkW (i := 5) (v := .pointer (some ⟨g, 0, none⟩)) rfl (by kernel_rfl) (fun _ _ _ h => h) (.inl ⟨by rfl, fun w hc => ?_⟩) (.inl rfl) ?_
    · clear hc; go_simp
    go_simp
    refine tkW (i := 6) (v := .pointer (some ⟨g, 1, none⟩)) rfl (by kernel_rfl) (fun _ _ _ h => h) (.inl ⟨by rfl, fun w hc => ?_⟩) (.inl rfl) ?_
    · clear hc; go_simp
    go_simp
    refine tkT (i := 7) (v := .slice (some ⟨gr, 0, none⟩) 8 rc) rfl (by kernel_rfl) (fun _ _ _ h => h) (.inl ⟨by rfl, fun w hc => ?_⟩) (rfl) ?_
    · rw [hc]; clear hc; go_simp
    go_simp
    refine tkW (i := 8) (v := .pointer (some ⟨gr, 7, none⟩)) rfl (by kernel_rfl) (fun _ _ _ h => h) (.inl ⟨by rfl, fun w hc => ?_⟩) (.inl rfl) ?_
    · clear hc; go_simp
    go_simp
    refine tkT (i := 9) (v := .int .i64 v7) rfl (by kernel_rfl) (fun _ _ _ h => h) (.inl ⟨by rfl, fun w hc => ?_⟩) (rfl) ?_
    · rw [hc]; clear hc; go_simp
    go_simp
    refine tkW (i := 10) (v := .pointer (some ⟨w.heap.size, 7, none⟩)) rfl (by kernel_rfl) (fun _ _ _ h => h) (.inl ⟨by rfl, fun w hc => ?_⟩) (.inl rfl) ?_
    · clear hc; go_simp
    go_simp
    refine tkT (i := 11) (v := .int .i64 n) rfl (by kernel_rfl) (fun _ _ _ h => h) (.inl ⟨by rfl, fun w hc => ?_⟩) (rfl) ?_
    · rw [hc]; clear hc; go_simp
    go_simp
    refine tkW (i := 12) (v := .int .i64 (2 * n)) rfl (by kernel_rfl) (fun _ _ _ h => h) (.inl ⟨by rfl, fun w hc => ?_⟩) (.inl rfl) ?_
    · clear hc; have hw := unhide HW2; go_simp
    go_simp
    refine tkW (i := 13) (v := .int .i64 (v7 + 2 * n)) rfl (by kernel_rfl) (fun _ _ _ h => h) (.inl ⟨by rfl, fun w hc => ?_⟩) (.inl rfl) ?_
    · clear hc; have hw := unhide HW; go_simp
    go_simp
    refine wpAnyL_one (i := 14) (by kernel_rfl) rfl (fun K2 hK => ?_)
    go_simp
    refine (unhide WR _).mono ?_
    rintro e w9 ⟨rfl, hw9⟩
    rw [hw9]
    clear hw9 w9
    refine hK.out _ _ (fun _ => rfl) ?_
    clear hK K2
    refine tkW (i := 15) (v := .pointer (some ⟨gr, 7, none⟩)) rfl (by kernel_rfl) (fun _ _ _ h => h) (.inl ⟨by rfl, fun w hc => ?_⟩) (.inl rfl) ?_
    · clear hc; go_simp
    go_simp
    refine wpAnyL_one (i := 16) (by kernel_rfl) rfl (fun K2 hK => ?_)
    go_simp
    refine hK.out _ _ (fun h => absurd h (by decide)) ?_
    clear hK K2
    refine wpAnyL_done (by kernel_rfl) ?_ _
    generalize wd.setCell ⟨gr, 7, none⟩ (.int .i64 x) = w5 at H1 F1 ⊢
    go_wp2
    go_end0
    exact ⟨rfl, unhide H1, unhide F1⟩
set_option maxHeartbeats 8000000 in
theorem br_21 (B g : Nat) (y : Mv) (t : Ms) (st a1 a2 a3 b1 b2 b3 n : Int) (w : World) (h : Sm w B g y t st) (hk : Dk t.d) (hn : -1000 ≤ n ∧ n ≤ 1000) : BrIs B g y t (t.branch 21 n) st 21 a1 a2 a3 b1 b2 b3 n w := by
  obtain ⟨n0, n1⟩ := hn
  obtain ⟨gr, rc, er⟩ := h.regs hk.rl
  obtain ⟨v0, v1⟩ := hk.rw _ (nAt_mem (show 7 < t.d.r.length by have := hk.rl; omega))
  have GR := hide (show gr < w.heap.size from (h.own.lo (at_r er)).2)
  have H0 := hide (h.later (below_new w (Obj.cells #[.int .i64 21, .int .i64 a1, .int .i64 a2, .int .i64 a3, .int .i64 b1, .int .i64 b2, .int .i64 b3, .int .i64 n] 69)))
  have F0 := hide (Fm.of (g := g) (y := y) (below_new w (Obj.cells #[.int .i64 21, .int .i64 a1, .int .i64 a2, .int .i64 a3, .int .i64 b1, .int .i64 b2, .int .i64 b3, .int .i64 n] 69)))
  have R0 := hide (heap_alloc_last w (Obj.cells #[.int .i64 21, .int .i64 a1, .int .i64 a2, .int .i64 a3, .int .i64 b1, .int .i64 b2, .int .i64 b3, .int .i64 n] 69))
  obtain ⟨tn, tz, tv, -⟩ := h.flz
  have WR := hide (fun v => wrapS_any (nAt t.d.r 7 + 2 * n) v)
  have HW := hide (show IntKind.i64.wrap (nAt t.d.r 7 + 2 * n) = nAt t.d.r 7 + 2 * n by rw [IntKind.wrap_i64]; omega)
  have HW2 := hide (show IntKind.i64.wrap (2 * n) = 2 * n by rw [IntKind.wrap_i64]; omega)
  have SR := hide (fun v (p : Sm v B g y t st) => And.intro (p.rcell er) (p.setR er 7 ((nAt t.d.r 7 + 2 * n) % 65536) (by have := hk.rl; omega)))
  have o0 := ins_op (unhide R0)
  unfold BrIs Ms.branch Ms.goes
  simp only [tn, tz, tv]
  generalize t.rg 7 ((nAt t.d.r 7 + 2 * n) % 65536) = t7 at SR ⊢
  generalize (nAt t.d.r 7 + 2 * n) % 65536 = x at WR SR
  generalize nAt t.d.r 7 = v7 at WR SR HW
  have cn := hide (And.intro (row_n ((unhide H0).later (below_drew (w := w.alloc (Obj.cells #[.int .i64 21, .int .i64 a1, .int .i64 a2, .int .i64 a3, .int .i64 b1, .int .i64 b2, .int .i64 b3, .int .i64 n] 69)))).row) (row_v ((unhide H0).later (below_drew (w := w.alloc (Obj.cells #[.int .i64 21, .int .i64 a1, .int .i64 a2, .int .i64 a3, .int .i64 b1, .int .i64 b2, .int .i64 b3, .int .i64 n] 69)))).row))
  generalize y.n = bn at cn ⊢
  generalize y.v = bv at cn ⊢
  clear h hk er tn tz tv v0 v1
  have HQ := hide ((unhide H0).later (below_drew (w := (w.alloc (Obj.cells #[.int .i64 21, .int .i64 a1, .int .i64 a2, .int .i64 a3, .int .i64 b1, .int .i64 b2, .int .i64 b3, .int .i64 n] 69)))))
  have FQ := hide ((unhide F0).trans (Fm.of (below_drew (w := (w.alloc (Obj.cells #[.int .i64 21, .int .i64 a1, .int .i64 a2, .int .i64 a3, .int .i64 b1, .int .i64 b2, .int .i64 b3, .int .i64 n] 69))))))
  have RQ := hide (row_lat (unhide R0) (below_drew (w := (w.alloc (Obj.cells #[.int .i64 21, .int .i64 a1, .int .i64 a2, .int .i64 a3, .int .i64 b1, .int .i64 b2, .int .i64 b3, .int .i64 n] 69)))))
  generalize hb : (bn != bv) = bb
  go_enter Tryz.func95, Tryz.ntmps95
  go_wp2_with fail
  refine wp_region_last (fun v => v.cell? ⟨g, 2, none⟩ = some (.bool bn) ∧ v.cell? ⟨g, 4, none⟩ = some (.bool bv)) 9 (by kernel_rfl) ?_
  generalize (w.alloc (Obj.cells #[.int .i64 21, .int .i64 a1, .int .i64 a2, .int .i64 a3, .int .i64 b1, .int .i64 b2, .int .i64 b3, .int .i64 n] 69)).drew = wq at HQ FQ RQ cn ⊢
  refine tkW (i := 0) (v := .pointer (some ⟨g, 0, none⟩)) rfl (by kernel_rfl) (fun _ _ _ h => h) (.inl ⟨by rfl, fun w hc => ?_⟩) (.inl (unhide cn)) ?_
  · clear hc; go_simp
  go_simp
  refine tkW (i := 1) (v := .pointer (some ⟨g, 0, none⟩)) rfl (by kernel_rfl) (fun _ _ _ h => h) (.inl ⟨by rfl, fun w hc => ?_⟩) (.inl (unhide cn)) ?_
  · clear hc; go_simp
  go_simp
  refine tkW (i := 2) (v := .pointer (some ⟨g, 2, none⟩)) rfl (by kernel_rfl) (fun _ _ _ h => h) (.inl ⟨by rfl, fun w hc => ?_⟩) (.inl (unhide cn)) ?_
  · clear hc; go_simp
  go_simp
  refine tkT (i := 3) (v := .bool bn) rfl (by kernel_rfl) (fun _ _ _ h => h) (.inl ⟨by rfl, fun w hc => ?_⟩) (unhide cn) ?_
  · obtain ⟨h1, h2⟩ := hc; go_simp
  go_simp
  refine tkW (i := 4) (v := .pointer (some ⟨g, 0, none⟩)) rfl (by kernel_rfl) (fun _ _ _ h => h) (.inl ⟨by rfl, fun w hc => ?_⟩) (.inl (unhide cn)) ?_
  · clear hc; go_simp
  go_simp
  refine tkW (i := 5) (v := .pointer (some ⟨g, 0, none⟩)) rfl (by kernel_rfl) (fun _ _ _ h => h) (.inl ⟨by rfl, fun w hc => ?_⟩) (.inl (unhide cn)) ?_
  · clear hc; go_simp
  go_simp
  refine tkW (i := 6) (v := .pointer (some ⟨g, 4, none⟩)) rfl (by kernel_rfl) (fun _ _ _ h => h) (.inl ⟨by rfl, fun w hc => ?_⟩) (.inl (unhide cn)) ?_
  · clear hc; go_simp
  go_simp
  refine tkT (i := 7) (v := .bool bv) rfl (by kernel_rfl) (fun _ _ _ h => h) (.inl ⟨by rfl, fun w hc => ?_⟩) (unhide cn) ?_
  · obtain ⟨h1, h2⟩ := hc; go_simp
  go_simp
  refine tkW (i := 8) (v := .bool (bn != bv)) rfl (by kernel_rfl) (fun _ _ _ h => h) (.inl ⟨by rfl, fun w hc => ?_⟩) (.inl (unhide cn)) ?_
  · clear hc; go_simp
    rw [← hb]
    cases bn <;> cases bv <;> rfl
  go_simp
  refine wpAnyL_one (i := 9) (by kernel_rfl) rfl (fun K2 hK => ?_)
  go_simp
  refine hK.out _ _ (fun h => absurd h (by decide)) ?_
  clear hK K2
  refine wpAnyL_done (by kernel_rfl) ?_ _
  try rw [hb]
  cases bb
  · go_wp2
    go_end0
    exact ⟨rfl, unhide HQ, unhide FQ⟩
  · go_wp2_with fail
    have HD := hide ((unhide HQ).later (below_drew (w := wq)))
    have FD := hide ((unhide FQ).trans (Fm.of (below_drew (w := wq))))
    have RD := hide (row_lat (unhide RQ) (below_drew (w := wq)))
    have c2 := ins_n (unhide RD)
    obtain ⟨c1, h1, f1, c3, c4⟩ := unhide SR _ (unhide HD)
    have H1 := hide h1
    have F1 := hide ((unhide FD).trans f1)
    clear h1 f1 SR
    refine wp_region_last (fun v => v = wq.drew) 16 (by kernel_rfl) ?_
    generalize wq.drew = wd at HD FD RD H1 F1 c1 c2 c3 c4 ⊢
    refine tkW (i := 0) (v := .pointer (some ⟨g, 0, none⟩)) rfl (by kernel_rfl) (fun _ _ _ h => h) (.inl ⟨by rfl, fun w hc => ?_⟩) (.inl rfl) ?_
    · clear hc; go_simp
    go_simp
    refine tkW (i := 1) (v := .pointer (some ⟨g, 0, none⟩)) rfl (by kernel_rfl) (fun _ _ _ h => h) (.inl ⟨by rfl, fun w hc => ?_⟩) (.inl rfl) ?_
    · clear hc; go_simp
    go_simp
    refine tkW (i := 2) (v := .pointer (some ⟨g, 1, none⟩)) rfl (by kernel_rfl) (fun _ _ _ h => h) (.inl ⟨by rfl, fun w hc => ?_⟩) (.inl rfl) ?_
    · clear hc; go_simp
    go_simp
    refine tkT (i := 3) (v := .slice (some ⟨gr, 0, none⟩) 8 rc) rfl (by kernel_rfl) (fun _ _ _ h => h) (.inl ⟨by rfl, fun w hc => ?_⟩) (rfl) ?_
    · rw [hc]; clear hc; go_simp
    go_simp
    refine tkW (i := 4) (v := .pointer (some ⟨g, 0, none⟩)) rfl (by kernel_rfl) (fun _ _ _ h => h) (.inl ⟨by rfl, fun w hc => ?_⟩) (.inl rfl) ?_
    · clear hc; go_simp
    go_simp
    refine tkW (i := 5) (v := .pointer (some ⟨g, 0, none⟩)) rfl (by kernel_rfl) (fun _ _ _ h => h) (.inl ⟨by rfl, fun w hc => ?_⟩) (.inl rfl) ?_
    · clear hc; go_simp
    go_simp
    refine tkW (i := 6) (v := .pointer (some ⟨g, 1, none⟩)) rfl (by kernel_rfl) (fun _ _ _ h => h) (.inl ⟨by rfl, fun w hc => ?_⟩) (.inl rfl) ?_
    · clear hc; go_simp
    go_simp
    refine tkT (i := 7) (v := .slice (some ⟨gr, 0, none⟩) 8 rc) rfl (by kernel_rfl) (fun _ _ _ h => h) (.inl ⟨by rfl, fun w hc => ?_⟩) (rfl) ?_
    · rw [hc]; clear hc; go_simp
    go_simp
    refine tkW (i := 8) (v := .pointer (some ⟨gr, 7, none⟩)) rfl (by kernel_rfl) (fun _ _ _ h => h) (.inl ⟨by rfl, fun w hc => ?_⟩) (.inl rfl) ?_
    · clear hc; go_simp
    go_simp
    refine tkT (i := 9) (v := .int .i64 v7) rfl (by kernel_rfl) (fun _ _ _ h => h) (.inl ⟨by rfl, fun w hc => ?_⟩) (rfl) ?_
    · rw [hc]; clear hc; go_simp
    go_simp
    refine tkW (i := 10) (v := .pointer (some ⟨w.heap.size, 7, none⟩)) rfl (by kernel_rfl) (fun _ _ _ h => h) (.inl ⟨by rfl, fun w hc => ?_⟩) (.inl rfl) ?_
    · clear hc; go_simp
    go_simp
    refine tkT (i := 11) (v := .int .i64 n) rfl (by kernel_rfl) (fun _ _ _ h => h) (.inl ⟨by rfl, fun w hc => ?_⟩) (rfl) ?_
    · rw [hc]; clear hc; go_simp
    go_simp
    refine tkW (i := 12) (v := .int .i64 (2 * n)) rfl (by kernel_rfl) (fun _ _ _ h => h) (.inl ⟨by rfl, fun w hc => ?_⟩) (.inl rfl) ?_
    · clear hc; have hw := unhide HW2; go_simp
    go_simp
    refine tkW (i := 13) (v := .int .i64 (v7 + 2 * n)) rfl (by kernel_rfl) (fun _ _ _ h => h) (.inl ⟨by rfl, fun w hc => ?_⟩) (.inl rfl) ?_
    · clear hc; have hw := unhide HW; go_simp
    go_simp
    refine wpAnyL_one (i := 14) (by kernel_rfl) rfl (fun K2 hK => ?_)
    go_simp
    refine (unhide WR _).mono ?_
    rintro e w9 ⟨rfl, hw9⟩
    rw [hw9]
    clear hw9 w9
    refine hK.out _ _ (fun _ => rfl) ?_
    clear hK K2
    refine tkW (i := 15) (v := .pointer (some ⟨gr, 7, none⟩)) rfl (by kernel_rfl) (fun _ _ _ h => h) (.inl ⟨by rfl, fun w hc => ?_⟩) (.inl rfl) ?_
    · clear hc; go_simp
    go_simp
    refine wpAnyL_one (i := 16) (by kernel_rfl) rfl (fun K2 hK => ?_)
    go_simp
    refine hK.out _ _ (fun h => absurd h (by decide)) ?_
    clear hK K2
    refine wpAnyL_done (by kernel_rfl) ?_ _
    generalize wd.setCell ⟨gr, 7, none⟩ (.int .i64 x) = w5 at H1 F1 ⊢
    go_wp2
    go_end0
    exact ⟨rfl, unhide H1, unhide F1⟩
theorem branch_any (B g : Nat) (y : Mv) (t : Ms) (st a1 a2 a3 b1 b2 b3 n : Int) (op : Nat) (ho : 17 ≤ op ∧ op ≤ 21) (w : World) (h : Sm w B g y t st) (hk : Dk t.d) (hn : -1000 ≤ n ∧ n ≤ 1000) : BrIs B g y t (t.branch op n) st op a1 a2 a3 b1 b2 b3 n w := by
  have e : op = 17 ∨ op = 18 ∨ op = 19 ∨ op = 20 ∨ op = 21 := by omega
  rcases e with rfl | rfl | rfl | rfl | rfl
  · exact br_17 B g y t st a1 a2 a3 b1 b2 b3 n w h hk hn
  · exact br_18 B g y t st a1 a2 a3 b1 b2 b3 n w h hk hn
  · exact br_19 B g y t st a1 a2 a3 b1 b2 b3 n w h hk hn
  · exact br_20 B g y t st a1 a2 a3 b1 b2 b3 n w h hk hn
  · exact br_21 B g y t st a1 a2 a3 b1 b2 b3 n w h hk hn
end Go.Proofs.YtjpbjbnialehbaaGreatDoor

namespace Go.Proofs.YtjpbjbnialehbaaGreatDoor
open Go.ChangeShapes Go.WideShapes Go.ChangeAt Go.RowKit
set_option linter.unusedVariables false
set_option maxRecDepth 8000
set_option linter.unusedSimpArgs false
theorem bigA_setW {mem : List Int} (y : Mv) (k : Nat) (v : Int) (hm : mem.length = 256) (hk : k < 256) : (bigA mem y).setIfInBounds k (.int .i64 v) = bigA (mem.set k v) y := by
  unfold bigA
  rw [List.setIfInBounds_toArray, List.set_append_left _ _ (by rw [cellsN_length]; omega)]
  congr 2
  unfold cellsN
  rw [List.map_set]
theorem bigA_setF {mem : List Int} (y y' : Mv) (j : Nat) (v : Value) (hm : mem.length = 256) (he : y.cs.setIfInBounds j v = y'.cs) : (bigA mem y).setIfInBounds (256 + j) v = bigA mem y' := by
  unfold bigA
  rw [List.setIfInBounds_toArray, List.set_append_right _ _ (by rw [cellsN_length]; omega), cellsN_length, hm, show 256 + j - 256 = j by omega, ← he]
  congr 2
  simp
/-- The program's machine at a pointer; m0: what its list of words holds meanwhile. -/
structure Pz (w : World) (g B gr rc : Nat) (y : Mv) (t : Ms) (st : Int) (m0 : List Int) : Prop where
  row : w.heap[g]? = some (.cells (bigA t.d.m y) 44 (0, 0))
  len : t.d.m.length = 256
  own : OwnM w B y ⟨m0, t.d.r, t.d.i, t.d.o⟩
  er : y.r = ⟨some ⟨gr, 0, none⟩, 8, rc⟩
  r8 : t.d.r.length = 8
  fl : y.fl = t.fl st
  lo : B ≤ g
  ne : ∀ b, y.at b → b ≠ g
section
variable {w w' : World} {g B gr rc : Nat} {y : Mv} {t : Ms} {st : Int} {m0 : List Int}
theorem Pz.later (h : Pz w g B gr rc y t st m0) (hb : Below w.heap.size w w') : Pz w' g B gr rc y t st m0 := ⟨row_lat h.row hb, h.len, h.own.later hb, h.er, h.r8, h.fl, h.lo, h.ne⟩
theorem Pz.atr (h : Pz w g B gr rc y t st m0) : y.at gr := .inr (.inl (by rw [h.er]; rfl))
theorem Pz.gl (h : Pz w g B gr rc y t st m0) : g < w.heap.size := row_lt h.row
theorem Pz.yl (h : Pz w g B gr rc y t st m0) {b : Nat} (hb : y.at b) : b < w.heap.size := (h.own.lo hb).2
theorem Pz.pg (h : Pz w g B gr rc y t st t.d.m) : Pg w g B gr rc y t.d := ⟨h.row, h.len, h.own, by rw [h.r8]; exact h.er, h.ne _ h.atr⟩
theorem Pz.ofPg {d2 : Md} (h : Pz w g B gr rc y t st t.d.m) (p : Pg w' g B gr rc y d2) : Pz w' g B gr rc y { t with d := d2 } st d2.m :=
  ⟨p.row, p.len, p.own, h.er, by have := p.er; rw [h.er] at this; injection this with _ e _; exact e.symm, h.fl, h.lo, h.ne⟩
/-- A flag, or how it stands, is written. -/
theorem Pz.setF (h : Pz w g B gr rc y t st m0) (j : Nat) (v : Value) (y' : Mv) (t' : Ms) (st' : Int) (he : y.cs.setIfInBounds j v = y'.cs) (em : y'.m = y.m) (er : y'.r = y.r) (ei : y'.i = y.i) (eo : y'.o = y.o) (hd : t'.d = t.d) (hf : y'.fl = t'.fl st') :
    Pz (w.setCell ⟨g, 256 + j, none⟩ v) g B gr rc y' t' st' m0 ∧ Fm w (w.setCell ⟨g, 256 + j, none⟩ v) g y y' := by
  have hat : ∀ b, y'.at b → y.at b := fun b hb => by unfold Mv.at at hb ⊢; rw [em, er, ei, eo] at hb; exact hb
  refine ⟨⟨?_, by rw [hd]; exact h.len, ?_, by rw [er]; exact h.er, by rw [hd]; exact h.r8, hf, h.lo, fun b hb => h.ne b (hat b hb)⟩, Fm.grown (grownBy_set (b := g) (o := 256 + j) v) (.inl rfl) hat⟩
  · rw [setCell_eq_setRow w g _ _ 44 (0, 0) _ h.row, bigA_setF y y' j v h.len he, hd]
    exact setRow_heap w g _ _ 44 _ h.row
  · have o2 := h.own.keepH (w' := w.setCell ⟨g, 256 + j, none⟩ v) fun b hb _ => Below.heap_setCell w ⟨g, 256 + j, none⟩ v b (h.ne b hb)
    rw [hd]
    obtain ⟨o1, o3, o4, o5, a1, a2, a3, a4, a5, a6⟩ := o2
    exact ⟨by rw [em]; exact o1, by rw [er]; exact o3, by rw [ei]; exact o4, by rw [eo]; exact o5, by rw [em, er]; exact a1, by rw [em, ei]; exact a2, by rw [em, eo]; exact a3, by rw [er, ei]; exact a4, by rw [er, eo]; exact a5, by rw [ei, eo]; exact a6⟩
theorem Pz.setV (h : Pz w g B gr rc y t st m0) (b : Bool) : Pz (w.setCell ⟨g, 260, none⟩ (.bool b)) g B gr rc { y with v := b } { t with v := b } st m0 ∧ Fm w (w.setCell ⟨g, 260, none⟩ (.bool b)) g y { y with v := b } :=
  h.setF 4 (.bool b) { y with v := b } { t with v := b } st rfl rfl rfl rfl rfl rfl (by have := h.fl; unfold Mv.fl Ms.fl at *; simp at *; exact ⟨this.1, this.2.1, this.2.2.2⟩)
theorem Pz.setC (h : Pz w g B gr rc y t st m0) (b : Bool) : Pz (w.setCell ⟨g, 261, none⟩ (.bool b)) g B gr rc { y with c := b } { t with c := b } st m0 ∧ Fm w (w.setCell ⟨g, 261, none⟩ (.bool b)) g y { y with c := b } :=
  h.setF 5 (.bool b) { y with c := b } { t with c := b } st rfl rfl rfl rfl rfl rfl (by have := h.fl; unfold Mv.fl Ms.fl at *; simp at *; exact ⟨this.1, this.2.1, this.2.2.1, this.2.2.2.2⟩)
theorem Pz.setN (h : Pz w g B gr rc y t st m0) (b : Bool) : Pz (w.setCell ⟨g, 258, none⟩ (.bool b)) g B gr rc { y with n := b } { t with n := b } st m0 ∧ Fm w (w.setCell ⟨g, 258, none⟩ (.bool b)) g y { y with n := b } :=
  h.setF 2 (.bool b) { y with n := b } { t with n := b } st rfl rfl rfl rfl rfl rfl (by have := h.fl; unfold Mv.fl Ms.fl at *; simp at *; exact ⟨this.2.1, this.2.2⟩)
theorem Pz.setZ (h : Pz w g B gr rc y t st m0) (b : Bool) : Pz (w.setCell ⟨g, 259, none⟩ (.bool b)) g B gr rc { y with z := b } { t with z := b } st m0 ∧ Fm w (w.setCell ⟨g, 259, none⟩ (.bool b)) g y { y with z := b } :=
  h.setF 3 (.bool b) { y with z := b } { t with z := b } st rfl rfl rfl rfl rfl rfl (by have := h.fl; unfold Mv.fl Ms.fl at *; simp at *; exact ⟨this.1, this.2.2⟩)
theorem Pz.setS (h : Pz w g B gr rc y t st m0) (s : Int) : Pz (w.setCell ⟨g, 264, none⟩ (.int .i64 s)) g B gr rc { y with st := s } t s m0 ∧ Fm w (w.setCell ⟨g, 264, none⟩ (.int .i64 s)) g y { y with st := s } :=
  h.setF 8 (.int .i64 s) { y with st := s } t s rfl rfl rfl rfl rfl rfl (by have := h.fl; unfold Mv.fl Ms.fl at *; simp at *; exact ⟨this.1, this.2.1, this.2.2.1, this.2.2.2.1⟩)
theorem Pz.cell (h : Pz w g B gr rc y t st m0) (k : Nat) (v : Value) (hv : y.cs[k]? = some v) : w.cell? ⟨g, 256 + k, none⟩ = some v := big_cell h.row h.len k v hv
theorem Pz.fz (h : Pz w g B gr rc y t st m0) (j : Nat) : w.frozen? ⟨g, j, none⟩ = false := by simp [World.frozen?, h.row]
theorem Pz.cr (h : Pz w g B gr rc y t st m0) : w.cell? ⟨g, 257, none⟩ = some (.slice (some ⟨gr, 0, none⟩) 8 rc) := by
  have c := h.cell 1 (.slice y.r.a y.r.n y.r.c) rfl
  rw [h.er] at c
  exact c
/-- A register is written. -/
theorem Pz.setR (h : Pz w g B gr rc y t st m0) (k : Nat) (v : Int) (hk : k < 8) : Pz (w.setCell ⟨gr, k, none⟩ (.int .i64 v)) g B gr rc y (t.rg k v) st m0 ∧ Fm w (w.setCell ⟨gr, k, none⟩ (.int .i64 v)) g y y ∧ w.cell? ⟨gr, k, none⟩ = some (.int .i64 (nAt t.d.r k)) ∧ w.frozen? ⟨gr, k, none⟩ = false := by
  obtain ⟨o3, g3, _, _, c1, c2⟩ := own_setR h.own (show y.r = ⟨some ⟨gr, 0, none⟩, (Md.mk m0 t.d.r t.d.i t.d.o).r.length, rc⟩ by rw [h.r8]; exact h.er) k v (by rw [h.r8]; exact hk)
  exact ⟨⟨row_past h.row g3 (h.ne _ h.atr), h.len, o3, h.er, by rw [Ms.rg_len]; exact h.r8, h.fl, h.lo, h.ne⟩, Fm.grown g3 (.inr h.atr) (fun k hk => hk), c1, c2⟩
/-- A word of the memory is written. -/
theorem Pz.setM (h : Pz w g B gr rc y t st m0) (k : Nat) (v : Int) (hk : k < 256) : Pz (w.setCell ⟨g, k, none⟩ (.int .i64 v)) g B gr rc y { t with d := ⟨t.d.m.set k v, t.d.r, t.d.i, t.d.o⟩ } st m0 ∧ Fm w (w.setCell ⟨g, k, none⟩ (.int .i64 v)) g y y ∧ w.cell? ⟨g, k, none⟩ = some (.int .i64 (nAt t.d.m k)) ∧ w.frozen? ⟨g, k, none⟩ = false := by
  refine ⟨⟨?_, by simp [h.len], h.own.keepH (w' := w.setCell ⟨g, k, none⟩ (.int .i64 v)) fun b hb _ => Below.heap_setCell w ⟨g, k, none⟩ _ b (h.ne b hb), h.er, h.r8, h.fl, h.lo, h.ne⟩, Fm.grown (grownBy_set (b := g) (o := k) _) (.inl rfl) (fun k hk => hk), ?_, h.fz k⟩
  · rw [setCell_eq_setRow w g _ _ 44 (0, 0) _ h.row, bigA_setW y k v h.len hk]
    exact setRow_heap w g _ _ 44 _ h.row
  · exact (cell_of_row w g k _ 44 _ h.row).trans (bigA_mem y h.len hk)
end
theorem Fm.grownR {w w' : World} {g gr : Nat} {y : Mv} (hg : w.grownBy w' (some gr)) (ha : y.at gr) : Fm w w' g y y := Fm.grown hg (.inr ha) (fun k hk => hk)
end Go.Proofs.YtjpbjbnialehbaaGreatDoor

namespace Go.Proofs.YtjpbjbnialehbaaGreatDoor
open Go.ChangeShapes Go.WideShapes Go.ChangeAt Go.RowKit
set_option linter.unusedVariables false
set_option maxRecDepth 8000
set_option linter.unusedSimpArgs false
def sgI (n : Int) : Bool := decide (32768 ≤ n)
theorem hasSign_any (n : Int) (w : World) : Calls Tryz.prog 109 #[.int .i64 n] w fun e w' => e = .returned (.bool (sgI n)) ∧ w' = w := by
  unfold sgI
  go_enter Tryz.func109, Tryz.ntmps109
  go_wp2
  go_ret
  exact ⟨by simp, rfl⟩
def wkR (op : Nat) (s d : Int) : Int := match op with
  | 1 => s
  | 2 => (s - d) % 65536
  | 3 => bits .andNot .i64 d s
  | 4 => bits .or .i64 d s
  | 5 => (s + d) % 65536
  | 6 => (d - s) % 65536
  | 7 => 0
  | 8 => (d + 1) % 65536
  | 9 => (d - 1) % 65536
  | 10 => (-d) % 65536
  | 11 => d
  | 12 => (sgV d / 2) % 65536
  | _ => (2 * d) % 65536
def wkV (op : Nat) (s d : Int) : Bool := match op with
  | 2 => (sgI s != sgI d) && (sgI ((s - d) % 65536) == sgI d)
  | 5 => (sgI s == sgI d) && (sgI ((s + d) % 65536) != sgI s)
  | 6 => (sgI d != sgI s) && (sgI ((d - s) % 65536) == sgI s)
  | 8 => d == 32767
  | 9 => d == 32768
  | 10 => (-d) % 65536 == 32768
  | 12 => sgI ((sgV d / 2) % 65536) != (bits .and .i64 d 1 == 1)
  | 13 => sgI ((2 * d) % 65536) != sgI d
  | _ => false
def wkC (op : Nat) (s d : Int) (c : Bool) : Bool := match op with
  | 2 => decide (s < d)
  | 5 => !inB (s + d) 0 65535
  | 6 => decide (d < s)
  | 7 => false
  | 10 => (-d) % 65536 != 0
  | 11 => false
  | 12 => bits .and .i64 d 1 == 1
  | 13 => sgI d
  | _ => c
def Mv.wk (y : Mv) (op : Nat) (s d : Int) : Mv := { y with v := wkV op s d, c := wkC op s d y.c }
def Ms.wk (t : Ms) (op : Nat) (s d : Int) : Ms := { t with v := wkV op s d, c := wkC op s d t.c }
/-- What a work makes of s and d. -/
def WkIs (k op : Nat) : Prop := ∀ (g B gr rc : Nat) (y : Mv) (t : Ms) (st : Int) (m0 : List Int) (s d : Int) (w : World), Pz w g B gr rc y t st m0 → 0 ≤ s → s ≤ 65535 → 0 ≤ d → d ≤ 65535 →
  Calls Tryz.prog k #[.pointer (some ⟨g, 0, none⟩), .int .i64 s, .int .i64 d] w fun e w' => e = .returned (.int .i64 (wkR op s d)) ∧ Pz w' g B gr rc (y.wk op s d) (t.wk op s d) st m0 ∧ Fm w w' g y (y.wk op s d)
theorem Pz.flz {w : World} {g B gr rc : Nat} {y : Mv} {t : Ms} {st : Int} {m0 : List Int} (h : Pz w g B gr rc y t st m0) : t.n = y.n ∧ t.z = y.z ∧ t.v = y.v ∧ t.c = y.c ∧ st = y.st := by
  have := h.fl
  unfold Mv.fl Ms.fl at this
  simp at this
  exact ⟨this.1.symm, this.2.1.symm, this.2.2.1.symm, this.2.2.2.1.symm, this.2.2.2.2.symm⟩
/-- V and C written. -/
theorem Pz.setVC {w : World} {g B gr rc : Nat} {y : Mv} {t : Ms} {st : Int} {m0 : List Int} (h : Pz w g B gr rc y t st m0) (a b : Bool) : Pz ((w.setCell ⟨g, 260, none⟩ (.bool a)).setCell ⟨g, 261, none⟩ (.bool b)) g B gr rc { y with v := a, c := b } { t with v := a, c := b } st m0 ∧ Fm w ((w.setCell ⟨g, 260, none⟩ (.bool a)).setCell ⟨g, 261, none⟩ (.bool b)) g y { y with v := a, c := b } :=
  ⟨((h.setV a).1.setC b).1, (h.setV a).2.trans ((h.setV a).1.setC b).2⟩
set_option maxHeartbeats 2000000 in
theorem wk_1 : WkIs 61 1 := by
  intro g B gr rc y t st m0 s d w h s0 s1 d0 d1
  have c4 := h.cell 4 _ rfl
  have f4 := h.fz 260
  have c5 := h.cell 5 _ rfl
  have f5 := h.fz 261
  have HT := hide h.flz.2.2.2.1
  have H := hide h
  unfold Mv.wk Ms.wk
  simp only [wkV, wkC, wkR]
  have H2 := hide (((unhide H).setV false))
  clear h
  go_enter Tryz.func61, Tryz.ntmps61
  go_wp2
  go_ret
  rw [unhide HT]
  have := unhide HT
  exact ⟨rfl, by have q := (unhide H2).1; rw [show ({ t with v := false } : Ms) = { t with v := false, c := y.c } by rw [← this]] at q; exact q, (unhide H2).2⟩
set_option maxHeartbeats 2000000 in
theorem wk_3 : WkIs 64 3 := by
  intro g B gr rc y t st m0 s d w h s0 s1 d0 d1
  have c4 := h.cell 4 _ rfl
  have f4 := h.fz 260
  have c5 := h.cell 5 _ rfl
  have f5 := h.fz 261
  have HT := hide h.flz.2.2.2.1
  have H := hide h
  unfold Mv.wk Ms.wk
  simp only [wkV, wkC, wkR]
  have hq : bits .andNot .i64 d s = bits .andNot .i64 d s := rfl
  clear hq
  have H2 := hide (((unhide H).setV false))
  clear h
  go_enter Tryz.func64, Tryz.ntmps64
  go_wp2
  go_ret
  rw [unhide HT]
  have := unhide HT
  exact ⟨rfl, by have q := (unhide H2).1; rw [show ({ t with v := false } : Ms) = { t with v := false, c := y.c } by rw [← this]] at q; exact q, (unhide H2).2⟩
set_option maxHeartbeats 2000000 in
theorem wk_4 : WkIs 65 4 := by
  intro g B gr rc y t st m0 s d w h s0 s1 d0 d1
  have c4 := h.cell 4 _ rfl
  have f4 := h.fz 260
  have c5 := h.cell 5 _ rfl
  have f5 := h.fz 261
  have HT := hide h.flz.2.2.2.1
  have H := hide h
  unfold Mv.wk Ms.wk
  simp only [wkV, wkC, wkR]
  have hq : bits .or .i64 d s = bits .or .i64 d s := rfl
  clear hq
  have H2 := hide (((unhide H).setV false))
  clear h
  go_enter Tryz.func65, Tryz.ntmps65
  go_wp2
  go_ret
  rw [unhide HT]
  have := unhide HT
  exact ⟨rfl, by have q := (unhide H2).1; rw [show ({ t with v := false } : Ms) = { t with v := false, c := y.c } by rw [← this]] at q; exact q, (unhide H2).2⟩
set_option maxHeartbeats 2000000 in
theorem wk_8 : WkIs 69 8 := by
  intro g B gr rc y t st m0 s d w h s0 s1 d0 d1
  have c4 := h.cell 4 _ rfl
  have f4 := h.fz 260
  have c5 := h.cell 5 _ rfl
  have f5 := h.fz 261
  have HT := hide h.flz.2.2.2.1
  have H := hide h
  unfold Mv.wk Ms.wk
  simp only [wkV, wkC, wkR]
  have hw : IntKind.i64.wrap (d + 1) = d + 1 := by rw [IntKind.wrap_i64]; omega
  have WR := hide (fun v => wrapI_any (d + 1) v)
  generalize (d + 1) % 65536 = r at WR ⊢
  have H2 := hide (((unhide H).setV (d == 32767)))
  clear h
  go_enter Tryz.func69, Tryz.ntmps69
  go_wp2_with fail
  refine (unhide WR _).mono ?_
  rintro e w9 ⟨rfl, hw9⟩
  rw [hw9]
  clear hw9 w9
  go_wp2
  go_ret
  have := unhide HT
  exact ⟨rfl, by have q := (unhide H2).1; rw [show ({ t with v := (d == 32767) } : Ms) = { t with v := (d == 32767), c := t.c } from rfl] at q; exact q, (unhide H2).2⟩
set_option maxHeartbeats 2000000 in
theorem wk_9 : WkIs 70 9 := by
  intro g B gr rc y t st m0 s d w h s0 s1 d0 d1
  have c4 := h.cell 4 _ rfl
  have f4 := h.fz 260
  have c5 := h.cell 5 _ rfl
  have f5 := h.fz 261
  have HT := hide h.flz.2.2.2.1
  have H := hide h
  unfold Mv.wk Ms.wk
  simp only [wkV, wkC, wkR]
  have hw : IntKind.i64.wrap (d - 1) = d - 1 := by rw [IntKind.wrap_i64]; omega
  have WR := hide (fun v => wrapI_any (d - 1) v)
  generalize (d - 1) % 65536 = r at WR ⊢
  have H2 := hide (((unhide H).setV (d == 32768)))
  clear h
  go_enter Tryz.func70, Tryz.ntmps70
  go_wp2_with fail
  refine (unhide WR _).mono ?_
  rintro e w9 ⟨rfl, hw9⟩
  rw [hw9]
  clear hw9 w9
  go_wp2
  go_ret
  have := unhide HT
  exact ⟨rfl, by have q := (unhide H2).1; rw [show ({ t with v := (d == 32768) } : Ms) = { t with v := (d == 32768), c := t.c } from rfl] at q; exact q, (unhide H2).2⟩
set_option maxHeartbeats 2000000 in
theorem wk_7 : WkIs 68 7 := by
  intro g B gr rc y t st m0 s d w h s0 s1 d0 d1
  have c4 := h.cell 4 _ rfl
  have f4 := h.fz 260
  have c5 := h.cell 5 _ rfl
  have f5 := h.fz 261
  have HT := hide h.flz.2.2.2.1
  have H := hide h
  unfold Mv.wk Ms.wk
  simp only [wkV, wkC, wkR]
  have H2 := hide ((unhide H).setVC false false)
  clear h
  go_enter Tryz.func68, Tryz.ntmps68
  go_wp2
  go_ret
  exact ⟨rfl, (unhide H2).1, (unhide H2).2⟩
set_option maxHeartbeats 2000000 in
theorem wk_11 : WkIs 72 11 := by
  intro g B gr rc y t st m0 s d w h s0 s1 d0 d1
  have c4 := h.cell 4 _ rfl
  have f4 := h.fz 260
  have c5 := h.cell 5 _ rfl
  have f5 := h.fz 261
  have HT := hide h.flz.2.2.2.1
  have H := hide h
  unfold Mv.wk Ms.wk
  simp only [wkV, wkC, wkR]
  have H2 := hide ((unhide H).setVC false false)
  clear h
  go_enter Tryz.func72, Tryz.ntmps72
  go_wp2
  go_ret
  exact ⟨rfl, (unhide H2).1, (unhide H2).2⟩
end Go.Proofs.YtjpbjbnialehbaaGreatDoor
