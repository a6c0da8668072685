/- Contracts over this seat's translation, laid together; conditions stand as hypotheses of each. -/
import Derived.Test.YtboedaofbchdkaaGreatDoorRsH
namespace Go.Proofs.YtboedaofbchdkaaGreatDoor
open Go.ChangeShapes Go.WideShapes Go.ChangeAt Go.RowKit
set_option maxHeartbeats 16000000
set_option linter.unusedVariables false
set_option maxRecDepth 8000
set_option linter.unusedSimpArgs false
theorem st_no (d : Md) (r a n : Int) (h : d.ldB r a = false) : d.stD r a n = d := by
 unfold Md.stD Md.put
 by_cases h1 : r = -1
 ·
  rw [if_pos h1]
  unfold Md.ldB at h
  rw [if_pos h1] at h
  rw [h]
  simp
 ·
  rw [if_neg h1, h]
  simp
theorem Sm.small {w : World} {B g : Nat} {y : Mv} {t : Ms} {st : Int} (h : Sm w B g y t st) (hk : Dk t.d) : y.small := small_mv h.own.rd hk.small
theorem Sm.over {w w0 : World} {B g C : Nat} {y y2 : Mv} {t : Ms} {st : Int} {d2 : Md} (h : Sm w B g y t st) (o2 : OwnM w C y2 d2) (hC : B ≤ C) (hg : g < C) (hf : y2.fl = y.fl) : Sm (w.setRow g y2.cs) B g y2 { t with d := d2 } st :=
 ⟨setRow_heap w g _ _ 26 _ h.row, (o2.keepH fun k hk _ => setRow_other w g k y2.cs (by have := (o2.lo hk).1; omega)).base hC, hf.trans h.fl, h.lo, fun b hb e => by have := (o2.lo hb).1; omega⟩
theorem Sm.lay {w : World} {B g : Nat} {y : Mv} {t : Ms} {st : Int} (h : Sm w B g y t st) (q : Nat) (cs : Array Value) (hq : g ≠ q) (ho : ∀ b, y.at b → b ≠ q) : Sm (w.setRow q cs) B g y t st :=
 ⟨(setRow_other w q g cs hq).trans h.row, h.own.keepH fun k hk _ => setRow_other w q k cs (ho k hk), h.fl, h.lo, h.ne⟩
theorem put7_any (B g : Nat) (y : Mv) (t : Ms) (st r a n : Int) (w : World) (h : Sm w B g y t st) (hk : Dk t.d) :
  Calls Tryz.prog 51 #[.pointer (some ⟨g, 0, none⟩), .agg #[.int .i64 r, .int .i64 a], .int .i64 n] w fun e w' => e = .returned (.bool (t.d.ldB r a)) ∧ ∃ y', Sm w' B g y' { t with d := t.d.stD r a n } st ∧ Fm w w' g y y' := by
 have GL := hide (show g < w.heap.size from row_lt h.row)
 have BL := hide (show B ≤ w.heap.size from Nat.le_of_lt (Nat.lt_of_le_of_lt h.lo (row_lt h.row)))
 have SM := hide (h.small hk)
 have NZ := hide h.own.nz
 have H0 := hide ((h.later (below_new w (.cells #[.int .i64 r, .int .i64 a] 57))).later (below_drew (w := w.alloc (.cells #[.int .i64 r, .int .i64 a] 57))))
 have P0 := hide (row_lat (heap_alloc_last w (.cells #[.int .i64 r, .int .i64 a] 57)) (below_drew (w := w.alloc (.cells #[.int .i64 r, .int .i64 a] 57))))
 have BB := hide ((below_new w (.cells #[.int .i64 r, .int .i64 a] 57)).trans ((below_drew (w := w.alloc (.cells #[.int .i64 r, .int .i64 a] 57))).mono (by simp)))
 have KS := hide (fun w (h : RdM w y t.d) => storeS_any y t.d r a n w (uh SM) (uh NZ) h)
 have SN := hide (st_no t.d r a n)
 obtain ⟨q, hq⟩ : ∃ q, t.d.ldB r a = q := ⟨_, rfl⟩
 obtain ⟨D, hD⟩ : ∃ q, t.d.stD r a n = q := ⟨_, rfl⟩
 rw [hq, hD] at KS SN
 rw [hq, hD]
 clear h hk hq hD SM NZ
 go_enter Tryz.func51, Tryz.ntmps51
 go_wp2_with fail
 refine wp_region_held_drew (S := fun v => v.heap[g]? = some (.cells y.cs 26 (0, 0)) ∧ v.heap[w.heap.size]? = some (.cells #[.int .i64 r, .int .i64 a] 57 (0, 0))) (by kernel_rfl) ⟨(uh H0).row, uh P0⟩ (fun hS => ?_)
 have HS := hide hS
 clear hS
 generalize (w.alloc (.cells #[.int .i64 r, .int .i64 a] 57)).drew = wd at H0 P0 BB HS ⊢
 refine tkB 0 (.pointer (some ⟨g, 0, none⟩)) rfl (uh HS) ?_
 go_simp
 refine tkB 1 (.pointer (some ⟨g, 0, none⟩)) rfl (uh HS) ?_
 go_simp
 refine tkA 2 (.agg y.cs) rfl (yields_load rfl 26 _ rfl g rfl 26 y.cs _ (fun w h => h.1) Tryz.underlying26 rfl (by kernel_rfl)) (uh HS) ?_
 go_simp
 refine tkA 3 (.agg #[.int .i64 r, .int .i64 a]) rfl (yields_load rfl 57 _ rfl w.heap.size rfl 57 #[.int .i64 r, .int .i64 a] _ (fun w h => h.2) Tryz.underlying57 rfl (by kernel_rfl)) (uh HS) ?_
 go_simp
 refine tkB 4 (.int .i64 n) rfl (uh HS) ?_
 go_simp
 refine wpAnyH_ready (rs := [5, 9]) (by kernel_rfl) (by simp) ?_
 refine AllReadyH.cons rfl (fun K2 hK => ?_) (AllReadyH.cons rfl (fun K2 hK => ?_) (AllReadyH.nil))
 ·
  go_simp
  have P := hide (uh KS wd (uh H0).own.rd)
  refine (uh P).mono ?_
  rintro e w2 ⟨y2, rfl, fy, oy, hb⟩
  have FY := hide fy
  have OY := hide oy
  have OYL := hide (fun b (hb : y2.at b) => (oy.lo hb).2)
  have H2 := hide ((uh H0).later hb)
  have WD := hide (show w.heap.size < wd.heap.size from row_lt (uh P0))
  have B2 := hide ((uh BB).trans (hb.mono (by have := uh BL; have := uh WD; omega)))
  have P2 := hide (row_lat (uh P0) hb)
  refine hK.out _ _ ⟨(uh H2).row, uh P2⟩ (fun hS => ?_)
  clear HS
  have HS := hide hS
  have Z2 := hide (show wd.heap.size ≤ w2.heap.size from hb.size)
  clear hS hK K2 hb fy oy P KS
  refine tkB 6 (.tuple #[.agg y2.cs, .bool q]) rfl (uh HS) ?_
  go_simp
  refine tkB 7 (.agg y2.cs) rfl (uh HS) ?_
  go_simp
  refine tkB 8 (.bool q) rfl (uh HS) ?_
  go_simp
  refine wpAnyH_ready (rs := [9]) (by kernel_rfl) (by simp) ?_
  refine AllReadyH.cons rfl (fun K2 hK => ?_) (AllReadyH.nil)
  go_simp
  have H3 := hide ((uh H2).later (below_new w2 (.cells zMv.cs 26)))
  have O3 := hide ((uh OY).later (below_new w2 (.cells zMv.cs 26)))
  have P3 := hide (row_lat (uh P2) (below_new w2 (.cells zMv.cs 26)))
  have B3 := hide ((uh B2).trans ((below_new w2 (.cells zMv.cs 26)).mono (by have := (uh B2).size; omega)))
  have R3 := hide (heap_alloc_last w2 (.cells zMv.cs 26))
  refine hK.out _ _ ⟨(uh H3).row, uh P3⟩ (fun hS => ?_)
  clear HS
  have HS := hide hS
  clear hS hK K2 H2 OY P2 B2
  refine wpAnyH_ready (rs := [10]) (by kernel_rfl) (by simp) ?_
  refine AllReadyH.cons rfl (fun K2 hK => ?_) (AllReadyH.nil)
  rw [if_pos (by rfl)]
  refine wp_store_row 26 _ _ rfl w2.heap.size y2.cs rfl rfl 26 zMv.cs (uh R3) (by kernel_rfl) rfl (Mv.cs_one _) ?_
  have OFF := hide (fun b (hb : y.at b) => (show b ≠ w2.heap.size from fun e => by have := ((uh H0).own.lo hb).2; have := uh Z2; omega))
  have OFF2 := hide (fun b (hb : y2.at b) => (show b ≠ w2.heap.size from fun e => by have := (uh OYL b hb); omega))
  have GW := hide (show g < w2.heap.size by have := uh GL; have := uh WD; have := uh Z2; omega)
  have H4 := hide ((uh H3).lay w2.heap.size y2.cs (by have := uh GW; omega) (fun b hb => uh OFF b hb))
  have O4 := hide ((uh O3).keepH fun k hk _ => setRow_other (w2.alloc (.cells zMv.cs 26)) w2.heap.size k y2.cs (fun e => uh OFF2 k hk e))
  have P4 := hide ((setRow_other (w2.alloc (.cells zMv.cs 26)) w2.heap.size w.heap.size y2.cs (by have := uh WD; have := uh Z2; omega)).trans (uh P3))
  have B4 := hide (below_setRow (g := w2.heap.size) (uh B3) (by have := uh BL; have := uh WD; have := uh Z2; omega) y2.cs)
  have R4 := hide (setRow_heap (w2.alloc (.cells zMv.cs 26)) w2.heap.size _ y2.cs 26 _ (uh R3))
  refine hK.out _ _ ⟨(uh H4).row, uh P4⟩ (fun hS => ?_)
  clear HS
  have HS := hide hS
  clear hS hK K2 H3 O3 P3 B3 R3
  go_simp
  refine tkB 11 (.bool q) rfl (uh HS) ?_
  go_simp
  refine wpAnyH_done (by kernel_rfl) ?_ _
  clear HS
  cases q
  ·
   have hD := (uh SN (by trivial)).symm
   subst hD
   go_wp2_with fail
   go_ret
   exact ⟨rfl, y, uh H4, Fm.of (uh B4)⟩
  ·
   have H9 := hide ((uh H4).over (w0 := w) (uh O4) (by have := uh BL; have := uh WD; omega) (by have := uh GL; have := uh WD; omega) (uh FY))
   have B9 := hide (Fm.over (g := g) (y := y) (uh B4) (uh O4) (by have := uh WD; omega) y2.cs)
   go_wp2_with (first | (refine wpList_load_row rfl 26 _ rfl w2.heap.size rfl 26 y2.cs (0, 0) _ (uh R4) Tryz.underlying26 rfl (by kernel_rfl) ?_) | (refine wpList_store_row rfl 26 _ _ rfl g y2.cs rfl rfl 26 y.cs (uh H4).row (by kernel_rfl) rfl (Mv.cs_one _) ?_))
   go_ret
   exact ⟨rfl, y2, uh H9, uh B9⟩
 ·
  go_simp
  have WD := hide (show w.heap.size < wd.heap.size from row_lt (uh P0))
  have H1 := hide ((uh H0).later (below_new wd (.cells zMv.cs 26)))
  have P1 := hide (row_lat (uh P0) (below_new wd (.cells zMv.cs 26)))
  have B1 := hide ((uh BB).trans ((below_new wd (.cells zMv.cs 26)).mono (by have := uh BL; have := uh WD; omega)))
  have R1 := hide (heap_alloc_last wd (.cells zMv.cs 26))
  have P := hide (uh KS (wd.alloc (.cells zMv.cs 26)) (uh H1).own.rd)
  refine hK.out _ _ ⟨(uh H1).row, uh P1⟩ (fun hS => ?_)
  clear HS
  have HS := hide hS
  clear hS hK K2
  refine wpAnyH_ready (rs := [5]) (by kernel_rfl) (by simp) ?_
  refine AllReadyH.cons rfl (fun K2 hK => ?_) (AllReadyH.nil)
  go_simp
  refine (uh P).mono ?_
  rintro e w2 ⟨y2, rfl, fy, oy, hb⟩
  have FY := hide fy
  have OY := hide (oy.base (C := wd.heap.size + 1) (by simp))
  have H2 := hide ((uh H1).later hb)
  have B2 := hide ((uh B1).trans (hb.mono (by have := uh BL; have := uh WD; simp; omega)))
  have P2 := hide (row_lat (uh P1) hb)
  have R2 := hide (row_lat (uh R1) hb)
  refine hK.out _ _ ⟨(uh H2).row, uh P2⟩ (fun hS => ?_)
  clear HS
  have HS := hide hS
  clear hS hK K2 hb fy oy P KS H1 P1 B1 R1
  refine tkB 6 (.tuple #[.agg y2.cs, .bool q]) rfl (uh HS) ?_
  go_simp
  refine tkB 7 (.agg y2.cs) rfl (uh HS) ?_
  go_simp
  refine tkB 8 (.bool q) rfl (uh HS) ?_
  go_simp
  refine wpAnyH_ready (rs := [10]) (by kernel_rfl) (by simp) ?_
  refine AllReadyH.cons rfl (fun K2 hK => ?_) (AllReadyH.nil)
  rw [if_pos (by rfl)]
  refine wp_store_row 26 _ _ rfl wd.heap.size y2.cs rfl rfl 26 zMv.cs (uh R2) (by kernel_rfl) rfl (Mv.cs_one _) ?_
  have GW := hide (show g < wd.heap.size by have := uh GL; have := uh WD; omega)
  have H4 := hide ((uh H2).lay wd.heap.size y2.cs (by have := uh GW; omega) (fun b hb e => by have := ((uh H0).own.lo hb).2; omega))
  have O4 := hide ((uh OY).keepH fun k hk _ => setRow_other w2 wd.heap.size k y2.cs (fun e => by have := ((uh OY).lo hk).1; omega))
  have P4 := hide ((setRow_other w2 wd.heap.size w.heap.size y2.cs (by have := uh WD; omega)).trans (uh P2))
  have B4 := hide (below_setRow (g := wd.heap.size) (uh B2) (by have := uh BL; have := uh WD; omega) y2.cs)
  have R4 := hide (setRow_heap w2 wd.heap.size _ y2.cs 26 _ (uh R2))
  refine hK.out _ _ ⟨(uh H4).row, uh P4⟩ (fun hS => ?_)
  clear HS
  have HS := hide hS
  clear hS hK K2
  go_simp
  refine tkB 11 (.bool q) rfl (uh HS) ?_
  go_simp
  refine wpAnyH_done (by kernel_rfl) ?_ _
  clear HS
  cases q
  ·
   have hD := (uh SN (by trivial)).symm
   subst hD
   go_wp2_with fail
   go_ret
   exact ⟨rfl, y, uh H4, Fm.of (uh B4)⟩
  ·
   have H9 := hide ((uh H4).over (w0 := w) (uh O4) (by have := uh BL; have := uh WD; omega) (by have := uh GL; have := uh WD; omega) (uh FY))
   have B9 := hide (Fm.over (g := g) (y := y) (uh B4) (uh O4) (by have := uh WD; omega) y2.cs)
   go_wp2_with (first | (refine wpList_load_row rfl 26 _ rfl wd.heap.size rfl 26 y2.cs (0, 0) _ (uh R4) Tryz.underlying26 rfl (by kernel_rfl) ?_) | (refine wpList_store_row rfl 26 _ _ rfl g y2.cs rfl rfl 26 y.cs (uh H4).row (by kernel_rfl) rfl (Mv.cs_one _) ?_))
   go_ret
   exact ⟨rfl, y2, uh H9, uh B9⟩
theorem row2S_0 {w : World} {g : Nat} {a b : Int} {t : TypeId} (h : w.heap[g]? = some (.cells #[.int .i64 a, .int .i64 b] t (0, 0))) : w.cell? ⟨g, 0, none⟩ = some (.int .i64 a) := (cell_of_row w g 0 _ t _ h).trans rfl
theorem row2S_1 {w : World} {g : Nat} {a b : Int} {t : TypeId} (h : w.heap[g]? = some (.cells #[.int .i64 a, .int .i64 b] t (0, 0))) : w.cell? ⟨g, 1, none⟩ = some (.int .i64 b) := (cell_of_row w g 1 _ t _ h).trans rfl
def Ms.st (t : Ms) (qr qa n : Int) : Ms := { t with d := t.d.stD qr qa n }
def Ms.cs (t : Ms) (b : Bool) : Ms := { t with c := b }
theorem Sm.setC {w : World} {B g : Nat} {y : Mv} {t : Ms} {st : Int} (h : Sm w B g y t st) (b : Bool) : Sm (w.setCell ⟨g, 5, none⟩ (.bool b)) B g { y with c := b } (t.cs b) st ∧ Fm w (w.setCell ⟨g, 5, none⟩ (.bool b)) g y { y with c := b } :=
 ⟨h.setF 5 (.bool b) { y with c := b } (t.cs b) st rfl rfl rfl rfl rfl rfl (by have := h.fl; unfold Mv.fl Ms.fl Ms.cs at *; simp at *; exact ⟨this.1, this.2.1, this.2.2.1, this.2.2.2.2⟩), Fm.grown (grownBy_set (b := g) (o := 5) (.bool b)) (.inl rfl) (fun k hk => hk)⟩
def Ms.two (t : Ms) (op : Nat) (s qr qa : Int) : Ms :=
 match op with
 | 1 => (t.nz s false).st qr qa s
 | 2 => (t.nz ((s - t.d.ldV qr qa) % 65536) ((sgB s != sgB (t.d.ldV qr qa)) && (sgB ((s - t.d.ldV qr qa) % 65536) == sgB (t.d.ldV qr qa)))).cs (decide (s < t.d.ldV qr qa))
 | 3 => (t.nz (bits .andNot .i64 (t.d.ldV qr qa) s) false).st qr qa (bits .andNot .i64 (t.d.ldV qr qa) s)
 | 4 => (t.nz (bits .or .i64 (t.d.ldV qr qa) s) false).st qr qa (bits .or .i64 (t.d.ldV qr qa) s)
 | 5 => ((t.nz ((t.d.ldV qr qa + s) % 65536) ((sgB s == sgB (t.d.ldV qr qa)) && (sgB ((t.d.ldV qr qa + s) % 65536) != sgB (t.d.ldV qr qa)))).cs (decide (65535 < t.d.ldV qr qa + s))).st qr qa ((t.d.ldV qr qa + s) % 65536)
 | _ => ((t.nz ((t.d.ldV qr qa - s) % 65536) ((sgB s != sgB (t.d.ldV qr qa)) && (sgB ((t.d.ldV qr qa - s) % 65536) == sgB s))).cs (decide (t.d.ldV qr qa < s))).st qr qa ((t.d.ldV qr qa - s) % 65536)
def TwIs (B g : Nat) (y : Mv) (t t2 : Ms) (st op s qr qa : Int) (ok : Bool) (w : World) : Prop :=
 Calls Tryz.prog 33 #[.pointer (some ⟨g, 0, none⟩), .int .i64 op, .int .i64 s, .agg #[.int .i64 qr, .int .i64 qa]] w fun e w' => e = .returned (.bool ok) ∧ ∃ y', (ok = true → Sm w' B g y' t2 st) ∧ Fm w w' g y y'
theorem two_1 (B g : Nat) (y : Mv) (t : Ms) (st s qr qa : Int) (w : World) (h : Sm w B g y t st) (hk : Dk t.d) (hs : 0 ≤ s ∧ s ≤ 65535) : TwIs B g y t (t.two 1 s qr qa) st 1 s qr qa (t.d.ldB qr qa) w := by
 obtain ⟨s0, s1⟩ := hs
 have GL := hide (show g < w.heap.size from row_lt h.row)
 have YL := hide (fun b (hb : y.at b) => (h.own.lo hb).2)
 have H0 := hide (h.later (below_new w (Obj.cells #[.int .i64 qr, .int .i64 qa] 57)))
 have R0 := hide (heap_alloc_last w (Obj.cells #[.int .i64 qr, .int .i64 qa] 57))
 have DK := hide hk
 unfold TwIs Ms.two
 have NZ := hide (nz_any B g y t st s false (w.alloc (Obj.cells #[.int .i64 qr, .int .i64 qa] 57)) (uh H0))
 clear h hk
 go_enter Tryz.func33, Tryz.ntmps33
 go_wp2_with fail
 refine (uh NZ).mono ?_
 rintro e w1 ⟨rfl, h1, f1⟩
 have R1 := hide (f1.row (uh R0) (by have := uh GL; omega) (fun e => by have := uh YL _ e; omega))
 have F1 := hide ((Fm.of (below_new w (Obj.cells #[.int .i64 qr, .int .i64 qa] 57))).trans f1)
 have P := hide (put7_any B g _ (t.nz s false) st qr qa s w1 h1 (uh DK))
 clear h1 f1 NZ
 go_wp2_with (refine wpList_load_row rfl 57 _ rfl w.heap.size rfl 57 #[.int .i64 qr, .int .i64 qa] (0, 0) _ (uh R1) Tryz.underlying57 rfl (by kernel_rfl) ?_)
 refine (uh P).mono ?_
 rintro e w2 ⟨rfl, y2, h2, f2⟩
 have H2 := hide h2
 have F2 := hide ((uh F1).trans f2)
 clear h2 f2 P
 go_wp2
 go_ret
 exact ⟨rfl, y2, fun _ => uh H2, uh F2⟩
theorem two_2n (B g : Nat) (y : Mv) (t : Ms) (st s qr qa : Int) (w : World) (h : Sm w B g y t st) (hk : Dk t.d) (hs : 0 ≤ s ∧ s ≤ 65535) (hq : t.d.ldB qr qa = false) : TwIs B g y t (t) st 2 s qr qa false w := by
 obtain ⟨s0, s1⟩ := hs
 have GL := hide (show g < w.heap.size from row_lt h.row)
 have YL := hide (fun b (hb : y.at b) => (h.own.lo hb).2)
 have H0 := hide ((h.later (below_new w (Obj.cells #[.int .i64 qr, .int .i64 qa] 57))).later (below_drew (w := (w.alloc (Obj.cells #[.int .i64 qr, .int .i64 qa] 57)))))
 have R0 := hide (row_lat (heap_alloc_last w (Obj.cells #[.int .i64 qr, .int .i64 qa] 57)) (below_drew (w := (w.alloc (Obj.cells #[.int .i64 qr, .int .i64 qa] 57)))))
 have BB := hide ((below_new w (Obj.cells #[.int .i64 qr, .int .i64 qa] 57)).trans ((below_drew (w := (w.alloc (Obj.cells #[.int .i64 qr, .int .i64 qa] 57)))).mono (by simp)))
 have LD := hide (fun v (r : RdM v y t.d) => loadS_any y t.d qr qa v (h.small hk) r)
 rw [hq] at LD
 have DB := hk.ldb qr qa
 have DK := hide hk
 unfold TwIs
 generalize t.d.ldV qr qa = D at LD DB ⊢
 clear h hk hq
 obtain ⟨d0, d1⟩ := DB
 go_enter Tryz.func33, Tryz.ntmps33
 go_wp2_with fail
 refine wp_region_held_drew (S := fun v => v.heap[g]? = some (.cells y.cs 26 (0, 0)) ∧ v.heap[w.heap.size]? = some (.cells #[.int .i64 qr, .int .i64 qa] 57 (0, 0))) (by kernel_rfl) ⟨(uh H0).row, uh R0⟩ (fun hS => ?_)
 have HS := hide hS
 clear hS
 generalize (w.alloc (Obj.cells #[.int .i64 qr, .int .i64 qa] 57)).drew = wd at H0 R0 BB HS ⊢
 refine tkB 0 (.pointer (some ⟨g, 0, none⟩)) rfl (uh HS) ?_
 go_simp
 refine tkB 1 (.pointer (some ⟨g, 0, none⟩)) rfl (uh HS) ?_
 go_simp
 refine tkA 2 (.agg y.cs) rfl (yields_load rfl 26 _ rfl g rfl 26 y.cs _ (fun w h => h.1) Tryz.underlying26 rfl (by kernel_rfl)) (uh HS) ?_
 go_simp
 refine tkA 3 (.agg #[.int .i64 qr, .int .i64 qa]) rfl (yields_load rfl 57 _ rfl w.heap.size rfl 57 #[.int .i64 qr, .int .i64 qa] _ (fun w h => h.2) Tryz.underlying57 rfl (by kernel_rfl)) (uh HS) ?_
 go_simp
 refine wpAnyH_ready (rs := [4]) (by kernel_rfl) (by simp) ?_
 refine AllReadyH.cons rfl (fun K2 hK => ?_) (AllReadyH.nil)
 go_simp
 have P := hide (uh LD wd (uh H0).own.rd)
 refine (uh P).mono ?_
 rintro e w2 ⟨rfl, hb⟩
 have H2 := hide ((uh H0).later hb)
 have WD := hide (show w.heap.size < wd.heap.size from row_lt (uh R0))
 have B2 := hide ((uh BB).trans (hb.mono (by have := uh WD; omega)))
 have R2 := hide (row_lat (uh R0) hb)
 refine hK.out _ _ ⟨(uh H2).row, uh R2⟩ (fun hS => ?_)
 clear HS
 have HS := hide hS
 clear hS hK K2 hb P LD H0 R0 BB
 refine tkB 5 (.tuple #[.int .i64 D, .bool false]) rfl (uh HS) ?_
 go_simp
 refine tkB 6 (.int .i64 D) rfl (uh HS) ?_
 go_simp
 refine tkB 7 (.bool false) rfl (uh HS) ?_
 go_simp
 refine tkB 8 (.int .i64 D) rfl (uh HS) ?_
 go_simp
 refine tkB 9 (.bool false) rfl (uh HS) ?_
 go_simp
 refine wpAnyH_done (by kernel_rfl) ?_ _
 clear HS
 go_wp2_with fail
 go_ret
 exact ⟨rfl, y, fun h => Bool.noConfusion h, Fm.of (uh B2)⟩
theorem two_3n (B g : Nat) (y : Mv) (t : Ms) (st s qr qa : Int) (w : World) (h : Sm w B g y t st) (hk : Dk t.d) (hs : 0 ≤ s ∧ s ≤ 65535) (hq : t.d.ldB qr qa = false) : TwIs B g y t (t) st 3 s qr qa false w := by
 obtain ⟨s0, s1⟩ := hs
 have GL := hide (show g < w.heap.size from row_lt h.row)
 have YL := hide (fun b (hb : y.at b) => (h.own.lo hb).2)
 have H0 := hide ((h.later (below_new w (Obj.cells #[.int .i64 qr, .int .i64 qa] 57))).later (below_drew (w := (w.alloc (Obj.cells #[.int .i64 qr, .int .i64 qa] 57)))))
 have R0 := hide (row_lat (heap_alloc_last w (Obj.cells #[.int .i64 qr, .int .i64 qa] 57)) (below_drew (w := (w.alloc (Obj.cells #[.int .i64 qr, .int .i64 qa] 57)))))
 have BB := hide ((below_new w (Obj.cells #[.int .i64 qr, .int .i64 qa] 57)).trans ((below_drew (w := (w.alloc (Obj.cells #[.int .i64 qr, .int .i64 qa] 57)))).mono (by simp)))
 have LD := hide (fun v (r : RdM v y t.d) => loadS_any y t.d qr qa v (h.small hk) r)
 rw [hq] at LD
 have DB := hk.ldb qr qa
 have DK := hide hk
 unfold TwIs
 generalize t.d.ldV qr qa = D at LD DB ⊢
 clear h hk hq
 obtain ⟨d0, d1⟩ := DB
 go_enter Tryz.func33, Tryz.ntmps33
 go_wp2_with fail
 refine wp_region_held_drew (S := fun v => v.heap[g]? = some (.cells y.cs 26 (0, 0)) ∧ v.heap[w.heap.size]? = some (.cells #[.int .i64 qr, .int .i64 qa] 57 (0, 0))) (by kernel_rfl) ⟨(uh H0).row, uh R0⟩ (fun hS => ?_)
 have HS := hide hS
 clear hS
 generalize (w.alloc (Obj.cells #[.int .i64 qr, .int .i64 qa] 57)).drew = wd at H0 R0 BB HS ⊢
 refine tkB 0 (.pointer (some ⟨g, 0, none⟩)) rfl (uh HS) ?_
 go_simp
 refine tkB 1 (.pointer (some ⟨g, 0, none⟩)) rfl (uh HS) ?_
 go_simp
 refine tkA 2 (.agg y.cs) rfl (yields_load rfl 26 _ rfl g rfl 26 y.cs _ (fun w h => h.1) Tryz.underlying26 rfl (by kernel_rfl)) (uh HS) ?_
 go_simp
 refine tkA 3 (.agg #[.int .i64 qr, .int .i64 qa]) rfl (yields_load rfl 57 _ rfl w.heap.size rfl 57 #[.int .i64 qr, .int .i64 qa] _ (fun w h => h.2) Tryz.underlying57 rfl (by kernel_rfl)) (uh HS) ?_
 go_simp
 refine wpAnyH_ready (rs := [4]) (by kernel_rfl) (by simp) ?_
 refine AllReadyH.cons rfl (fun K2 hK => ?_) (AllReadyH.nil)
 go_simp
 have P := hide (uh LD wd (uh H0).own.rd)
 refine (uh P).mono ?_
 rintro e w2 ⟨rfl, hb⟩
 have H2 := hide ((uh H0).later hb)
 have WD := hide (show w.heap.size < wd.heap.size from row_lt (uh R0))
 have B2 := hide ((uh BB).trans (hb.mono (by have := uh WD; omega)))
 have R2 := hide (row_lat (uh R0) hb)
 refine hK.out _ _ ⟨(uh H2).row, uh R2⟩ (fun hS => ?_)
 clear HS
 have HS := hide hS
 clear hS hK K2 hb P LD H0 R0 BB
 refine tkB 5 (.tuple #[.int .i64 D, .bool false]) rfl (uh HS) ?_
 go_simp
 refine tkB 6 (.int .i64 D) rfl (uh HS) ?_
 go_simp
 refine tkB 7 (.bool false) rfl (uh HS) ?_
 go_simp
 refine tkB 8 (.int .i64 D) rfl (uh HS) ?_
 go_simp
 refine tkB 9 (.bool false) rfl (uh HS) ?_
 go_simp
 refine wpAnyH_done (by kernel_rfl) ?_ _
 clear HS
 go_wp2_with fail
 go_ret
 exact ⟨rfl, y, fun h => Bool.noConfusion h, Fm.of (uh B2)⟩
theorem two_4n (B g : Nat) (y : Mv) (t : Ms) (st s qr qa : Int) (w : World) (h : Sm w B g y t st) (hk : Dk t.d) (hs : 0 ≤ s ∧ s ≤ 65535) (hq : t.d.ldB qr qa = false) : TwIs B g y t (t) st 4 s qr qa false w := by
 obtain ⟨s0, s1⟩ := hs
 have GL := hide (show g < w.heap.size from row_lt h.row)
 have YL := hide (fun b (hb : y.at b) => (h.own.lo hb).2)
 have H0 := hide ((h.later (below_new w (Obj.cells #[.int .i64 qr, .int .i64 qa] 57))).later (below_drew (w := (w.alloc (Obj.cells #[.int .i64 qr, .int .i64 qa] 57)))))
 have R0 := hide (row_lat (heap_alloc_last w (Obj.cells #[.int .i64 qr, .int .i64 qa] 57)) (below_drew (w := (w.alloc (Obj.cells #[.int .i64 qr, .int .i64 qa] 57)))))
 have BB := hide ((below_new w (Obj.cells #[.int .i64 qr, .int .i64 qa] 57)).trans ((below_drew (w := (w.alloc (Obj.cells #[.int .i64 qr, .int .i64 qa] 57)))).mono (by simp)))
 have LD := hide (fun v (r : RdM v y t.d) => loadS_any y t.d qr qa v (h.small hk) r)
 rw [hq] at LD
 have DB := hk.ldb qr qa
 have DK := hide hk
 unfold TwIs
 generalize t.d.ldV qr qa = D at LD DB ⊢
 clear h hk hq
 obtain ⟨d0, d1⟩ := DB
 go_enter Tryz.func33, Tryz.ntmps33
 go_wp2_with fail
 refine wp_region_held_drew (S := fun v => v.heap[g]? = some (.cells y.cs 26 (0, 0)) ∧ v.heap[w.heap.size]? = some (.cells #[.int .i64 qr, .int .i64 qa] 57 (0, 0))) (by kernel_rfl) ⟨(uh H0).row, uh R0⟩ (fun hS => ?_)
 have HS := hide hS
 clear hS
 generalize (w.alloc (Obj.cells #[.int .i64 qr, .int .i64 qa] 57)).drew = wd at H0 R0 BB HS ⊢
 refine tkB 0 (.pointer (some ⟨g, 0, none⟩)) rfl (uh HS) ?_
 go_simp
 refine tkB 1 (.pointer (some ⟨g, 0, none⟩)) rfl (uh HS) ?_
 go_simp
 refine tkA 2 (.agg y.cs) rfl (yields_load rfl 26 _ rfl g rfl 26 y.cs _ (fun w h => h.1) Tryz.underlying26 rfl (by kernel_rfl)) (uh HS) ?_
 go_simp
 refine tkA 3 (.agg #[.int .i64 qr, .int .i64 qa]) rfl (yields_load rfl 57 _ rfl w.heap.size rfl 57 #[.int .i64 qr, .int .i64 qa] _ (fun w h => h.2) Tryz.underlying57 rfl (by kernel_rfl)) (uh HS) ?_
 go_simp
 refine wpAnyH_ready (rs := [4]) (by kernel_rfl) (by simp) ?_
 refine AllReadyH.cons rfl (fun K2 hK => ?_) (AllReadyH.nil)
 go_simp
 have P := hide (uh LD wd (uh H0).own.rd)
 refine (uh P).mono ?_
 rintro e w2 ⟨rfl, hb⟩
 have H2 := hide ((uh H0).later hb)
 have WD := hide (show w.heap.size < wd.heap.size from row_lt (uh R0))
 have B2 := hide ((uh BB).trans (hb.mono (by have := uh WD; omega)))
 have R2 := hide (row_lat (uh R0) hb)
 refine hK.out _ _ ⟨(uh H2).row, uh R2⟩ (fun hS => ?_)
 clear HS
 have HS := hide hS
 clear hS hK K2 hb P LD H0 R0 BB
 refine tkB 5 (.tuple #[.int .i64 D, .bool false]) rfl (uh HS) ?_
 go_simp
 refine tkB 6 (.int .i64 D) rfl (uh HS) ?_
 go_simp
 refine tkB 7 (.bool false) rfl (uh HS) ?_
 go_simp
 refine tkB 8 (.int .i64 D) rfl (uh HS) ?_
 go_simp
 refine tkB 9 (.bool false) rfl (uh HS) ?_
 go_simp
 refine wpAnyH_done (by kernel_rfl) ?_ _
 clear HS
 go_wp2_with fail
 go_ret
 exact ⟨rfl, y, fun h => Bool.noConfusion h, Fm.of (uh B2)⟩
theorem two_5n (B g : Nat) (y : Mv) (t : Ms) (st s qr qa : Int) (w : World) (h : Sm w B g y t st) (hk : Dk t.d) (hs : 0 ≤ s ∧ s ≤ 65535) (hq : t.d.ldB qr qa = false) : TwIs B g y t (t) st 5 s qr qa false w := by
 obtain ⟨s0, s1⟩ := hs
 have GL := hide (show g < w.heap.size from row_lt h.row)
 have YL := hide (fun b (hb : y.at b) => (h.own.lo hb).2)
 have H0 := hide ((h.later (below_new w (Obj.cells #[.int .i64 qr, .int .i64 qa] 57))).later (below_drew (w := (w.alloc (Obj.cells #[.int .i64 qr, .int .i64 qa] 57)))))
 have R0 := hide (row_lat (heap_alloc_last w (Obj.cells #[.int .i64 qr, .int .i64 qa] 57)) (below_drew (w := (w.alloc (Obj.cells #[.int .i64 qr, .int .i64 qa] 57)))))
 have BB := hide ((below_new w (Obj.cells #[.int .i64 qr, .int .i64 qa] 57)).trans ((below_drew (w := (w.alloc (Obj.cells #[.int .i64 qr, .int .i64 qa] 57)))).mono (by simp)))
 have LD := hide (fun v (r : RdM v y t.d) => loadS_any y t.d qr qa v (h.small hk) r)
 rw [hq] at LD
 have DB := hk.ldb qr qa
 have DK := hide hk
 unfold TwIs
 generalize t.d.ldV qr qa = D at LD DB ⊢
 clear h hk hq
 obtain ⟨d0, d1⟩ := DB
 go_enter Tryz.func33, Tryz.ntmps33
 go_wp2_with fail
 refine wp_region_held_drew (S := fun v => v.heap[g]? = some (.cells y.cs 26 (0, 0)) ∧ v.heap[w.heap.size]? = some (.cells #[.int .i64 qr, .int .i64 qa] 57 (0, 0))) (by kernel_rfl) ⟨(uh H0).row, uh R0⟩ (fun hS => ?_)
 have HS := hide hS
 clear hS
 generalize (w.alloc (Obj.cells #[.int .i64 qr, .int .i64 qa] 57)).drew = wd at H0 R0 BB HS ⊢
 refine tkB 0 (.pointer (some ⟨g, 0, none⟩)) rfl (uh HS) ?_
 go_simp
 refine tkB 1 (.pointer (some ⟨g, 0, none⟩)) rfl (uh HS) ?_
 go_simp
 refine tkA 2 (.agg y.cs) rfl (yields_load rfl 26 _ rfl g rfl 26 y.cs _ (fun w h => h.1) Tryz.underlying26 rfl (by kernel_rfl)) (uh HS) ?_
 go_simp
 refine tkA 3 (.agg #[.int .i64 qr, .int .i64 qa]) rfl (yields_load rfl 57 _ rfl w.heap.size rfl 57 #[.int .i64 qr, .int .i64 qa] _ (fun w h => h.2) Tryz.underlying57 rfl (by kernel_rfl)) (uh HS) ?_
 go_simp
 refine wpAnyH_ready (rs := [4]) (by kernel_rfl) (by simp) ?_
 refine AllReadyH.cons rfl (fun K2 hK => ?_) (AllReadyH.nil)
 go_simp
 have P := hide (uh LD wd (uh H0).own.rd)
 refine (uh P).mono ?_
 rintro e w2 ⟨rfl, hb⟩
 have H2 := hide ((uh H0).later hb)
 have WD := hide (show w.heap.size < wd.heap.size from row_lt (uh R0))
 have B2 := hide ((uh BB).trans (hb.mono (by have := uh WD; omega)))
 have R2 := hide (row_lat (uh R0) hb)
 refine hK.out _ _ ⟨(uh H2).row, uh R2⟩ (fun hS => ?_)
 clear HS
 have HS := hide hS
 clear hS hK K2 hb P LD H0 R0 BB
 refine tkB 5 (.tuple #[.int .i64 D, .bool false]) rfl (uh HS) ?_
 go_simp
 refine tkB 6 (.int .i64 D) rfl (uh HS) ?_
 go_simp
 refine tkB 7 (.bool false) rfl (uh HS) ?_
 go_simp
 refine tkB 8 (.int .i64 D) rfl (uh HS) ?_
 go_simp
 refine tkB 9 (.bool false) rfl (uh HS) ?_
 go_simp
 refine wpAnyH_done (by kernel_rfl) ?_ _
 clear HS
 go_wp2_with fail
 go_ret
 exact ⟨rfl, y, fun h => Bool.noConfusion h, Fm.of (uh B2)⟩
theorem two_6n (B g : Nat) (y : Mv) (t : Ms) (st s qr qa : Int) (w : World) (h : Sm w B g y t st) (hk : Dk t.d) (hs : 0 ≤ s ∧ s ≤ 65535) (hq : t.d.ldB qr qa = false) : TwIs B g y t (t) st 6 s qr qa false w := by
 obtain ⟨s0, s1⟩ := hs
 have GL := hide (show g < w.heap.size from row_lt h.row)
 have YL := hide (fun b (hb : y.at b) => (h.own.lo hb).2)
 have H0 := hide ((h.later (below_new w (Obj.cells #[.int .i64 qr, .int .i64 qa] 57))).later (below_drew (w := (w.alloc (Obj.cells #[.int .i64 qr, .int .i64 qa] 57)))))
 have R0 := hide (row_lat (heap_alloc_last w (Obj.cells #[.int .i64 qr, .int .i64 qa] 57)) (below_drew (w := (w.alloc (Obj.cells #[.int .i64 qr, .int .i64 qa] 57)))))
 have BB := hide ((below_new w (Obj.cells #[.int .i64 qr, .int .i64 qa] 57)).trans ((below_drew (w := (w.alloc (Obj.cells #[.int .i64 qr, .int .i64 qa] 57)))).mono (by simp)))
 have LD := hide (fun v (r : RdM v y t.d) => loadS_any y t.d qr qa v (h.small hk) r)
 rw [hq] at LD
 have DB := hk.ldb qr qa
 have DK := hide hk
 unfold TwIs
 generalize t.d.ldV qr qa = D at LD DB ⊢
 clear h hk hq
 obtain ⟨d0, d1⟩ := DB
 go_enter Tryz.func33, Tryz.ntmps33
 go_wp2_with fail
 refine wp_region_held_drew (S := fun v => v.heap[g]? = some (.cells y.cs 26 (0, 0)) ∧ v.heap[w.heap.size]? = some (.cells #[.int .i64 qr, .int .i64 qa] 57 (0, 0))) (by kernel_rfl) ⟨(uh H0).row, uh R0⟩ (fun hS => ?_)
 have HS := hide hS
 clear hS
 generalize (w.alloc (Obj.cells #[.int .i64 qr, .int .i64 qa] 57)).drew = wd at H0 R0 BB HS ⊢
 refine tkB 0 (.pointer (some ⟨g, 0, none⟩)) rfl (uh HS) ?_
 go_simp
 refine tkB 1 (.pointer (some ⟨g, 0, none⟩)) rfl (uh HS) ?_
 go_simp
 refine tkA 2 (.agg y.cs) rfl (yields_load rfl 26 _ rfl g rfl 26 y.cs _ (fun w h => h.1) Tryz.underlying26 rfl (by kernel_rfl)) (uh HS) ?_
 go_simp
 refine tkA 3 (.agg #[.int .i64 qr, .int .i64 qa]) rfl (yields_load rfl 57 _ rfl w.heap.size rfl 57 #[.int .i64 qr, .int .i64 qa] _ (fun w h => h.2) Tryz.underlying57 rfl (by kernel_rfl)) (uh HS) ?_
 go_simp
 refine wpAnyH_ready (rs := [4]) (by kernel_rfl) (by simp) ?_
 refine AllReadyH.cons rfl (fun K2 hK => ?_) (AllReadyH.nil)
 go_simp
 have P := hide (uh LD wd (uh H0).own.rd)
 refine (uh P).mono ?_
 rintro e w2 ⟨rfl, hb⟩
 have H2 := hide ((uh H0).later hb)
 have WD := hide (show w.heap.size < wd.heap.size from row_lt (uh R0))
 have B2 := hide ((uh BB).trans (hb.mono (by have := uh WD; omega)))
 have R2 := hide (row_lat (uh R0) hb)
 refine hK.out _ _ ⟨(uh H2).row, uh R2⟩ (fun hS => ?_)
 clear HS
 have HS := hide hS
 clear hS hK K2 hb P LD H0 R0 BB
 refine tkB 5 (.tuple #[.int .i64 D, .bool false]) rfl (uh HS) ?_
 go_simp
 refine tkB 6 (.int .i64 D) rfl (uh HS) ?_
 go_simp
 refine tkB 7 (.bool false) rfl (uh HS) ?_
 go_simp
 refine tkB 8 (.int .i64 D) rfl (uh HS) ?_
 go_simp
 refine tkB 9 (.bool false) rfl (uh HS) ?_
 go_simp
 refine wpAnyH_done (by kernel_rfl) ?_ _
 clear HS
 go_wp2_with fail
 go_ret
 exact ⟨rfl, y, fun h => Bool.noConfusion h, Fm.of (uh B2)⟩
end Go.Proofs.YtboedaofbchdkaaGreatDoor
