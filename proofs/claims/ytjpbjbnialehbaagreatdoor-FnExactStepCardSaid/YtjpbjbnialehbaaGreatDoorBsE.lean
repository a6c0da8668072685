/- Contracts over this seat's translation, laid together; conditions stand as hypotheses of each. -/
import Derived.Test.YtjpbjbnialehbaaGreatDoorBsD

namespace Go.Proofs.YtjpbjbnialehbaaGreatDoor
open Go.ChangeShapes Go.WideShapes Go.ChangeAt Go.RowKit
set_option linter.unusedVariables false
set_option maxRecDepth 8000
set_option linter.unusedSimpArgs false
theorem st_no (d : Md) (r a n : Int) (h : d.ldB r a = false) : d.stD r a n = d := by
  unfold Md.stD Md.put
  by_cases h1 : r = -1
  · rw [if_pos h1]
    unfold Md.ldB at h
    rw [if_pos h1] at h
    rw [h]
    simp
  · rw [if_neg h1, h]
    simp
theorem Sm.small {w : World} {B g : Nat} {y : Mv} {t : Ms} {st : Int} (h : Sm w B g y t st) (hk : Dk t.d) : y.small := small_mv h.own.rd hk.small
/-- The whole machine laid anew. -/
theorem Sm.over {w w0 : World} {B g C : Nat} {y y2 : Mv} {t : Ms} {st : Int} {d2 : Md} (h : Sm w B g y t st) (o2 : OwnM w C y2 d2) (hC : B ≤ C) (hg : g < C) (hf : y2.fl = y.fl) : Sm (w.setRow g y2.cs) B g y2 { t with d := d2 } st :=
  ⟨setRow_heap w g _ _ 26 _ h.row, (o2.keepH fun k hk _ => setRow_other w g k y2.cs (by have := (o2.lo hk).1; omega)).base hC, hf.trans h.fl, h.lo, fun b hb e => by have := (o2.lo hb).1; omega⟩
theorem Sm.lay {w : World} {B g : Nat} {y : Mv} {t : Ms} {st : Int} (h : Sm w B g y t st) (q : Nat) (cs : Array Value) (hq : g ≠ q) (ho : ∀ b, y.at b → b ≠ q) : Sm (w.setRow q cs) B g y t st :=
  ⟨(setRow_other w q g cs hq).trans h.row, h.own.keepH fun k hk _ => setRow_other w q k cs (ho k hk), h.fl, h.lo, h.ne⟩
set_option maxHeartbeats 8000000 in
theorem put7_any (B g : Nat) (y : Mv) (t : Ms) (st r a n : Int) (w : World) (h : Sm w B g y t st) (hk : Dk t.d) :
    Calls Tryz.prog 124 #[.pointer (some ⟨g, 0, none⟩), .agg #[.int .i64 r, .int .i64 a], .int .i64 n] w fun e w' => e = .returned (.bool (t.d.ldB r a)) ∧ ∃ y', Sm w' B g y' { t with d := t.d.stD r a n } st ∧ Fm w w' g y y' := by
  have GL := hide (show g < w.heap.size from row_lt h.row)
  have BL := hide (show B ≤ w.heap.size from Nat.le_of_lt (Nat.lt_of_le_of_lt h.lo (row_lt h.row)))
  have SM := hide (h.small hk)
  have NZ := hide h.own.nz
  have H0 := hide ((h.later (below_new w (.cells #[.int .i64 r, .int .i64 a] 97))).later (below_drew (w := w.alloc (.cells #[.int .i64 r, .int .i64 a] 97))))
  have P0 := hide (row_lat (heap_alloc_last w (.cells #[.int .i64 r, .int .i64 a] 97)) (below_drew (w := w.alloc (.cells #[.int .i64 r, .int .i64 a] 97))))
  have BB := hide ((below_new w (.cells #[.int .i64 r, .int .i64 a] 97)).trans ((below_drew (w := w.alloc (.cells #[.int .i64 r, .int .i64 a] 97))).mono (by simp)))
  have KS := hide (fun w (h : RdM w y t.d) => storeS_any y t.d r a n w (unhide SM) (unhide NZ) h)
  have SN := hide (st_no t.d r a n)
  obtain ⟨q, hq⟩ : ∃ q, t.d.ldB r a = q := ⟨_, rfl⟩
  obtain ⟨D, hD⟩ : ∃ q, t.d.stD r a n = q := ⟨_, rfl⟩
  rw [hq, hD] at KS SN
  rw [hq, hD]
  clear h hk hq hD SM NZ
  go_enter Tryz.func124, Tryz.ntmps124
  go_wp2_with fail
  refine wp_region_held_drew (S := fun v => v.heap[g]? = some (.cells y.cs 26 (0, 0)) ∧ v.heap[w.heap.size]? = some (.cells #[.int .i64 r, .int .i64 a] 97 (0, 0))) (by kernel_rfl) ⟨(unhide H0).row, unhide P0⟩ (fun hS => ?_)
  have HS := hide hS
  clear hS
  generalize (w.alloc (.cells #[.int .i64 r, .int .i64 a] 97)).drew = wd at H0 P0 BB HS ⊢
  refine wpAnyH_take (i := 0) (v := .pointer (some ⟨g, 0, none⟩)) rfl (by kernel_rfl) (by kernel_rfl) (by kernel_rfl) (fun _ _ _ h => h) (Or.inl ⟨by rfl, fun w hc => ?_⟩) (unhide HS) ?_
  · clear hc; go_simp
  go_simp
  refine wpAnyH_take (i := 1) (v := .pointer (some ⟨g, 0, none⟩)) rfl (by kernel_rfl) (by kernel_rfl) (by kernel_rfl) (fun _ _ _ h => h) (Or.inl ⟨by rfl, fun w hc => ?_⟩) (unhide HS) ?_
  · clear hc; go_simp
  go_simp
  refine wpAnyH_take (i := 2) (v := .agg y.cs) rfl (by kernel_rfl) (by kernel_rfl) (by kernel_rfl) (fun _ _ _ h => h) (yields_load rfl 26 _ rfl g rfl 26 y.cs _ (fun w h => h.1) Tryz.underlying26 rfl (by kernel_rfl)) (unhide HS) ?_
  go_simp
  refine wpAnyH_take (i := 3) (v := .agg #[.int .i64 r, .int .i64 a]) rfl (by kernel_rfl) (by kernel_rfl) (by kernel_rfl) (fun _ _ _ h => h) (yields_load rfl 97 _ rfl w.heap.size rfl 97 #[.int .i64 r, .int .i64 a] _ (fun w h => h.2) Tryz.underlying97 rfl (by kernel_rfl)) (unhide HS) ?_
  go_simp
  refine wpAnyH_take (i := 4) (v := .int .i64 n) rfl (by kernel_rfl) (by kernel_rfl) (by kernel_rfl) (fun _ _ _ h => h) (Or.inl ⟨by rfl, fun w hc => ?_⟩) (unhide HS) ?_
  · clear hc; go_simp
  go_simp
  refine wpAnyH_ready (rs := [5, 9]) (by kernel_rfl) (by simp) ?_
  refine AllReadyH.cons rfl (fun K2 hK => ?_) (AllReadyH.cons rfl (fun K2 hK => ?_) (AllReadyH.nil))
  · go_simp
    have P := hide (unhide KS wd (unhide H0).own.rd)
    refine (unhide P).mono ?_
    rintro e w2 ⟨y2, rfl, fy, oy, hb⟩
    have FY := hide fy
    have OY := hide oy
    have OYL := hide (fun b (hb : y2.at b) => (oy.lo hb).2)
    have H2 := hide ((unhide H0).later hb)
    have WD := hide (show w.heap.size < wd.heap.size from row_lt (unhide P0))
    have B2 := hide ((unhide BB).trans (hb.mono (by have := unhide BL; have := unhide WD; omega)))
    have P2 := hide (row_lat (unhide P0) hb)
    refine hK.out _ _ ⟨(unhide H2).row, unhide P2⟩ (fun hS => ?_)
    clear HS
    have HS := hide hS
    have Z2 := hide (show wd.heap.size ≤ w2.heap.size from hb.size)
    clear hS hK K2 hb fy oy P KS
    refine wpAnyH_take (i := 6) (v := .tuple #[.agg y2.cs, .bool q]) rfl (by kernel_rfl) (by kernel_rfl) (by kernel_rfl) (fun _ _ _ h => h) (Or.inl ⟨by rfl, fun w hc => ?_⟩) (unhide HS) ?_
    · clear hc; go_simp
    go_simp
    refine wpAnyH_take (i := 7) (v := .agg y2.cs) rfl (by kernel_rfl) (by kernel_rfl) (by kernel_rfl) (fun _ _ _ h => h) (Or.inl ⟨by rfl, fun w hc => ?_⟩) (unhide HS) ?_
    · clear hc; go_simp
    go_simp
    refine wpAnyH_take (i := 8) (v := .bool q) rfl (by kernel_rfl) (by kernel_rfl) (by kernel_rfl) (fun _ _ _ h => h) (Or.inl ⟨by rfl, fun w hc => ?_⟩) (unhide HS) ?_
    · clear hc; go_simp
    go_simp
    refine wpAnyH_ready (rs := [9]) (by kernel_rfl) (by simp) ?_
    refine AllReadyH.cons rfl (fun K2 hK => ?_) (AllReadyH.nil)
    go_simp
    have H3 := hide ((unhide H2).later (below_new w2 (.cells zMv.cs 26)))
    have O3 := hide ((unhide OY).later (below_new w2 (.cells zMv.cs 26)))
    have P3 := hide (row_lat (unhide P2) (below_new w2 (.cells zMv.cs 26)))
    have B3 := hide ((unhide B2).trans ((below_new w2 (.cells zMv.cs 26)).mono (by have := (unhide B2).size; omega)))
    have R3 := hide (heap_alloc_last w2 (.cells zMv.cs 26))
    refine hK.out _ _ ⟨(unhide H3).row, unhide P3⟩ (fun hS => ?_)
    clear HS
    have HS := hide hS
    clear hS hK K2 H2 OY P2 B2
    refine wpAnyH_ready (rs := [10]) (by kernel_rfl) (by simp) ?_
    refine AllReadyH.cons rfl (fun K2 hK => ?_) (AllReadyH.nil)
    rw [if_pos (by rfl)]
    refine wp_store_row 26 _ _ rfl w2.heap.size y2.cs rfl rfl 26 zMv.cs (unhide R3) (by kernel_rfl) rfl (Mv.cs_one _) ?_
    have OFF := hide (fun b (hb : y.at b) => (show b ≠ w2.heap.size from fun e => by have := ((unhide H0).own.lo hb).2; have := unhide Z2; omega))
    have OFF2 := hide (fun b (hb : y2.at b) => (show b ≠ w2.heap.size from fun e => by have := (unhide OYL b hb); omega))
    have GW := hide (show g < w2.heap.size by have := unhide GL; have := unhide WD; have := unhide Z2; omega)
    have H4 := hide ((unhide H3).lay w2.heap.size y2.cs (by have := unhide GW; omega) (fun b hb => unhide OFF b hb))
    have O4 := hide ((unhide O3).keepH fun k hk _ => setRow_other (w2.alloc (.cells zMv.cs 26)) w2.heap.size k y2.cs (fun e => unhide OFF2 k hk e))
    have P4 := hide ((setRow_other (w2.alloc (.cells zMv.cs 26)) w2.heap.size w.heap.size y2.cs (by have := unhide WD; have := unhide Z2; omega)).trans (unhide P3))
    have B4 := hide (below_setRow (g := w2.heap.size) (unhide B3) (by have := unhide BL; have := unhide WD; have := unhide Z2; omega) y2.cs)
    have R4 := hide (setRow_heap (w2.alloc (.cells zMv.cs 26)) w2.heap.size _ y2.cs 26 _ (unhide R3))
    refine hK.out _ _ ⟨(unhide H4).row, unhide P4⟩ (fun hS => ?_)
    clear HS
    have HS := hide hS
    clear hS hK K2 H3 O3 P3 B3 R3
    go_simp
    refine wpAnyH_take (i := 11) (v := .bool q) rfl (by kernel_rfl) (by kernel_rfl) (by kernel_rfl) (fun _ _ _ h => h) (Or.inl ⟨by rfl, fun w hc => ?_⟩) (unhide HS) ?_
    · clear hc; go_simp
    go_simp
    refine wpAnyH_done (by kernel_rfl) ?_ _
    clear HS
    cases q
    · have hD := (unhide SN (by trivial)).symm
      subst hD
      go_wp2_with fail
      go_ret
      exact ⟨rfl, y, unhide H4, Fm.of (unhide B4)⟩
    · have H9 := hide ((unhide H4).over (w0 := w) (unhide O4) (by have := unhide BL; have := unhide WD; omega) (by have := unhide GL; have := unhide WD; omega) (unhide FY))
      have B9 := hide (Fm.over (g := g) (y := y) (unhide B4) (unhide O4) (by have := unhide WD; omega) y2.cs)
      go_wp2_with (first | (refine wpList_load_row rfl 26 _ rfl w2.heap.size rfl 26 y2.cs (0, 0) _ (unhide R4) Tryz.underlying26 rfl (by kernel_rfl) ?_) | (refine wpList_store_row rfl 26 _ _ rfl g y2.cs rfl rfl 26 y.cs (unhide H4).row (by kernel_rfl) rfl (Mv.cs_one _) ?_))
      go_ret
      exact ⟨rfl, y2, unhide H9, unhide B9⟩
  · go_simp
    have WD := hide (show w.heap.size < wd.heap.size from row_lt (unhide P0))
    have H1 := hide ((unhide H0).later (below_new wd (.cells zMv.cs 26)))
    have P1 := hide (row_lat (unhide P0) (below_new wd (.cells zMv.cs 26)))
    have B1 := hide ((unhide BB).trans ((below_new wd (.cells zMv.cs 26)).mono (by have := unhide BL; have := unhide WD; omega)))
    have R1 := hide (heap_alloc_last wd (.cells zMv.cs 26))
    have P := hide (unhide KS (wd.alloc (.cells zMv.cs 26)) (unhide H1).own.rd)
    refine hK.out _ _ ⟨(unhide H1).row, unhide P1⟩ (fun hS => ?_)
    clear HS
    have HS := hide hS
    clear hS hK K2
    refine wpAnyH_ready (rs := [5]) (by kernel_rfl) (by simp) ?_
    refine AllReadyH.cons rfl (fun K2 hK => ?_) (AllReadyH.nil)
    go_simp
    refine (unhide P).mono ?_
    rintro e w2 ⟨y2, rfl, fy, oy, hb⟩
    have FY := hide fy
    have OY := hide (oy.base (C := wd.heap.size + 1) (by simp))
    have H2 := hide ((unhide H1).later hb)
    have B2 := hide ((unhide B1).trans (hb.mono (by have := unhide BL; have := unhide WD; simp; omega)))
    have P2 := hide (row_lat (unhide P1) hb)
    have R2 := hide (row_lat (unhide R1) hb)
    refine hK.out _ _ ⟨(unhide H2).row, unhide P2⟩ (fun hS => ?_)
    clear HS
    have HS := hide hS
    clear hS hK K2 hb fy oy P KS H1 P1 B1 R1
    refine wpAnyH_take (i := 6) (v := .tuple #[.agg y2.cs, .bool q]) rfl (by kernel_rfl) (by kernel_rfl) (by kernel_rfl) (fun _ _ _ h => h) (Or.inl ⟨by rfl, fun w hc => ?_⟩) (unhide HS) ?_
    · clear hc; go_simp
    go_simp
    refine wpAnyH_take (i := 7) (v := .agg y2.cs) rfl (by kernel_rfl) (by kernel_rfl) (by kernel_rfl) (fun _ _ _ h => h) (Or.inl ⟨by rfl, fun w hc => ?_⟩) (unhide HS) ?_
    · clear hc; go_simp
    go_simp
    refine wpAnyH_take (i := 8) (v := .bool q) rfl (by kernel_rfl) (by kernel_rfl) (by kernel_rfl) (fun _ _ _ h => h) (Or.inl ⟨by rfl, fun w hc => ?_⟩) (unhide HS) ?_
    · clear hc; go_simp
    go_simp
    refine wpAnyH_ready (rs := [10]) (by kernel_rfl) (by simp) ?_
    refine AllReadyH.cons rfl (fun K2 hK => ?_) (AllReadyH.nil)
    rw [if_pos (by rfl)]
    refine wp_store_row 26 _ _ rfl wd.heap.size y2.cs rfl rfl 26 zMv.cs (unhide R2) (by kernel_rfl) rfl (Mv.cs_one _) ?_
    have GW := hide (show g < wd.heap.size by have := unhide GL; have := unhide WD; omega)
    have H4 := hide ((unhide H2).lay wd.heap.size y2.cs (by have := unhide GW; omega) (fun b hb e => by have := ((unhide H0).own.lo hb).2; omega))
    have O4 := hide ((unhide OY).keepH fun k hk _ => setRow_other w2 wd.heap.size k y2.cs (fun e => by have := ((unhide OY).lo hk).1; omega))
    have P4 := hide ((setRow_other w2 wd.heap.size w.heap.size y2.cs (by have := unhide WD; omega)).trans (unhide P2))
    have B4 := hide (below_setRow (g := wd.heap.size) (unhide B2) (by have := unhide BL; have := unhide WD; omega) y2.cs)
    have R4 := hide (setRow_heap w2 wd.heap.size _ y2.cs 26 _ (unhide R2))
    refine hK.out _ _ ⟨(unhide H4).row, unhide P4⟩ (fun hS => ?_)
    clear HS
    have HS := hide hS
    clear hS hK K2
    go_simp
    refine wpAnyH_take (i := 11) (v := .bool q) rfl (by kernel_rfl) (by kernel_rfl) (by kernel_rfl) (fun _ _ _ h => h) (Or.inl ⟨by rfl, fun w hc => ?_⟩) (unhide HS) ?_
    · clear hc; go_simp
    go_simp
    refine wpAnyH_done (by kernel_rfl) ?_ _
    clear HS
    cases q
    · have hD := (unhide SN (by trivial)).symm
      subst hD
      go_wp2_with fail
      go_ret
      exact ⟨rfl, y, unhide H4, Fm.of (unhide B4)⟩
    · have H9 := hide ((unhide H4).over (w0 := w) (unhide O4) (by have := unhide BL; have := unhide WD; omega) (by have := unhide GL; have := unhide WD; omega) (unhide FY))
      have B9 := hide (Fm.over (g := g) (y := y) (unhide B4) (unhide O4) (by have := unhide WD; omega) y2.cs)
      go_wp2_with (first | (refine wpList_load_row rfl 26 _ rfl wd.heap.size rfl 26 y2.cs (0, 0) _ (unhide R4) Tryz.underlying26 rfl (by kernel_rfl) ?_) | (refine wpList_store_row rfl 26 _ _ rfl g y2.cs rfl rfl 26 y.cs (unhide H4).row (by kernel_rfl) rfl (Mv.cs_one _) ?_))
      go_ret
      exact ⟨rfl, y2, unhide H9, unhide B9⟩
end Go.Proofs.YtjpbjbnialehbaaGreatDoor

namespace Go.Proofs.YtjpbjbnialehbaaGreatDoor
open Go.ChangeShapes Go.WideShapes Go.ChangeAt Go.RowKit
set_option linter.unusedVariables false
set_option maxRecDepth 8000
set_option linter.unusedSimpArgs false
theorem row2S_0 {w : World} {g : Nat} {a b : Int} {t : TypeId} (h : w.heap[g]? = some (.cells #[.int .i64 a, .int .i64 b] t (0, 0))) : w.cell? ⟨g, 0, none⟩ = some (.int .i64 a) := (cell_of_row w g 0 _ t _ h).trans rfl
theorem row2S_1 {w : World} {g : Nat} {a b : Int} {t : TypeId} (h : w.heap[g]? = some (.cells #[.int .i64 a, .int .i64 b] t (0, 0))) : w.cell? ⟨g, 1, none⟩ = some (.int .i64 b) := (cell_of_row w g 1 _ t _ h).trans rfl
def Ms.st (t : Ms) (qr qa n : Int) : Ms := { t with d := t.d.stD qr qa n }
def Ms.cs (t : Ms) (b : Bool) : Ms := { t with c := b }
theorem Sm.setC {w : World} {B g : Nat} {y : Mv} {t : Ms} {st : Int} (h : Sm w B g y t st) (b : Bool) : Sm (w.setCell ⟨g, 5, none⟩ (.bool b)) B g { y with c := b } (t.cs b) st ∧ Fm w (w.setCell ⟨g, 5, none⟩ (.bool b)) g y { y with c := b } :=
  ⟨h.setF 5 (.bool b) { y with c := b } (t.cs b) st rfl rfl rfl rfl rfl rfl (by have := h.fl; unfold Mv.fl Ms.fl Ms.cs at *; simp at *; exact ⟨this.1, this.2.1, this.2.2.1, this.2.2.2.2⟩), Fm.grown (grownBy_set (b := g) (o := 5) (.bool b)) (.inl rfl) (fun k hk => hk)⟩
/-- What an instruction of two operands makes of a machine. -/
def Ms.two (t : Ms) (op : Nat) (s qr qa : Int) : Ms :=
  match op with
  | 1 => (t.nz s false).st qr qa s
  | 2 => (t.nz ((s - t.d.ldV qr qa) % 65536) ((sgB s != sgB (t.d.ldV qr qa)) && (sgB ((s - t.d.ldV qr qa) % 65536) == sgB (t.d.ldV qr qa)))).cs (decide (s < t.d.ldV qr qa))
  | 3 => (t.nz (bits .andNot .i64 (t.d.ldV qr qa) s) false).st qr qa (bits .andNot .i64 (t.d.ldV qr qa) s)
  | 4 => (t.nz (bits .or .i64 (t.d.ldV qr qa) s) false).st qr qa (bits .or .i64 (t.d.ldV qr qa) s)
  | 5 => ((t.nz ((t.d.ldV qr qa + s) % 65536) ((sgB s == sgB (t.d.ldV qr qa)) && (sgB ((t.d.ldV qr qa + s) % 65536) != sgB (t.d.ldV qr qa)))).cs (decide (65535 < t.d.ldV qr qa + s))).st qr qa ((t.d.ldV qr qa + s) % 65536)
  | _ => ((t.nz ((t.d.ldV qr qa - s) % 65536) ((sgB s != sgB (t.d.ldV qr qa)) && (sgB ((t.d.ldV qr qa - s) % 65536) == sgB s))).cs (decide (t.d.ldV qr qa < s))).st qr qa ((t.d.ldV qr qa - s) % 65536)
/-- What l7Two answers. -/
def TwIs (B g : Nat) (y : Mv) (t t2 : Ms) (st op s qr qa : Int) (ok : Bool) (w : World) : Prop :=
  Calls Tryz.prog 91 #[.pointer (some ⟨g, 0, none⟩), .int .i64 op, .int .i64 s, .agg #[.int .i64 qr, .int .i64 qa]] w fun e w' => e = .returned (.bool ok) ∧ ∃ y', (ok = true → Sm w' B g y' t2 st) ∧ Fm w w' g y y'
set_option maxHeartbeats 8000000 in
theorem two_1 (B g : Nat) (y : Mv) (t : Ms) (st s qr qa : Int) (w : World) (h : Sm w B g y t st) (hk : Dk t.d) (hs : 0 ≤ s ∧ s ≤ 65535) : TwIs B g y t (t.two 1 s qr qa) st 1 s qr qa (t.d.ldB qr qa) w := by
  obtain ⟨s0, s1⟩ := hs
  have GL := hide (show g < w.heap.size from row_lt h.row)
  have YL := hide (fun b (hb : y.at b) => (h.own.lo hb).2)
  have H0 := hide (h.later (below_new w (Obj.cells #[.int .i64 qr, .int .i64 qa] 97)))
  have R0 := hide (heap_alloc_last w (Obj.cells #[.int .i64 qr, .int .i64 qa] 97))
  have DK := hide hk
  unfold TwIs Ms.two
  have NZ := hide (nz_any B g y t st s false (w.alloc (Obj.cells #[.int .i64 qr, .int .i64 qa] 97)) (unhide H0))
  clear h hk
  go_enter Tryz.func91, Tryz.ntmps91
  go_wp2_with fail
  refine (unhide NZ).mono ?_
  rintro e w1 ⟨rfl, h1, f1⟩
  have R1 := hide (f1.row (unhide R0) (by have := unhide GL; omega) (fun e => by have := unhide YL _ e; omega))
  have F1 := hide ((Fm.of (below_new w (Obj.cells #[.int .i64 qr, .int .i64 qa] 97))).trans f1)
  have P := hide (put7_any B g _ (t.nz s false) st qr qa s w1 h1 (unhide DK))
  clear h1 f1 NZ
  go_wp2_with (refine wpList_load_row rfl 97 _ rfl w.heap.size rfl 97 #[.int .i64 qr, .int .i64 qa] (0, 0) _ (unhide R1) Tryz.underlying97 rfl (by kernel_rfl) ?_)
  refine (unhide P).mono ?_
  rintro e w2 ⟨rfl, y2, h2, f2⟩
  have H2 := hide h2
  have F2 := hide ((unhide F1).trans f2)
  clear h2 f2 P
  go_wp2
  go_ret
  exact ⟨rfl, y2, fun _ => unhide H2, unhide F2⟩
set_option maxHeartbeats 8000000 in
theorem two_2n (B g : Nat) (y : Mv) (t : Ms) (st s qr qa : Int) (w : World) (h : Sm w B g y t st) (hk : Dk t.d) (hs : 0 ≤ s ∧ s ≤ 65535) (hq : t.d.ldB qr qa = false) : TwIs B g y t (t) st 2 s qr qa false w := by
  obtain ⟨s0, s1⟩ := hs
  have GL := hide (show g < w.heap.size from row_lt h.row)
  have YL := hide (fun b (hb : y.at b) => (h.own.lo hb).2)
  have H0 := hide ((h.later (below_new w (Obj.cells #[.int .i64 qr, .int .i64 qa] 97))).later (below_drew (w := (w.alloc (Obj.cells #[.int .i64 qr, .int .i64 qa] 97)))))
  have R0 := hide (row_lat (heap_alloc_last w (Obj.cells #[.int .i64 qr, .int .i64 qa] 97)) (below_drew (w := (w.alloc (Obj.cells #[.int .i64 qr, .int .i64 qa] 97)))))
  have BB := hide ((below_new w (Obj.cells #[.int .i64 qr, .int .i64 qa] 97)).trans ((below_drew (w := (w.alloc (Obj.cells #[.int .i64 qr, .int .i64 qa] 97)))).mono (by simp)))
  have LD := hide (fun v (r : RdM v y t.d) => loadS_any y t.d qr qa v (h.small hk) r)
  rw [hq] at LD
  have DB := hk.ldb qr qa
  have DK := hide hk
  unfold TwIs
  generalize t.d.ldV qr qa = D at LD DB ⊢
  clear h hk hq
  obtain ⟨d0, d1⟩ := DB
  
  go_enter Tryz.func91, Tryz.ntmps91
  go_wp2_with fail
  refine wp_region_held_drew (S := fun v => v.heap[g]? = some (.cells y.cs 26 (0, 0)) ∧ v.heap[w.heap.size]? = some (.cells #[.int .i64 qr, .int .i64 qa] 97 (0, 0))) (by kernel_rfl) ⟨(unhide H0).row, unhide R0⟩ (fun hS => ?_)
  have HS := hide hS
  clear hS
  generalize (w.alloc (Obj.cells #[.int .i64 qr, .int .i64 qa] 97)).drew = wd at H0 R0 BB HS ⊢
  refine wpAnyH_take (i := 0) (v := .pointer (some ⟨g, 0, none⟩)) rfl (by kernel_rfl) (by kernel_rfl) (by kernel_rfl) (fun _ _ _ h => h) (Or.inl ⟨by rfl, fun w hc => ?_⟩) (unhide HS) ?_
  · clear hc; go_simp
  go_simp
  refine wpAnyH_take (i := 1) (v := .pointer (some ⟨g, 0, none⟩)) rfl (by kernel_rfl) (by kernel_rfl) (by kernel_rfl) (fun _ _ _ h => h) (Or.inl ⟨by rfl, fun w hc => ?_⟩) (unhide HS) ?_
  · clear hc; go_simp
  go_simp
  refine wpAnyH_take (i := 2) (v := .agg y.cs) rfl (by kernel_rfl) (by kernel_rfl) (by kernel_rfl) (fun _ _ _ h => h) (yields_load rfl 26 _ rfl g rfl 26 y.cs _ (fun w h => h.1) Tryz.underlying26 rfl (by kernel_rfl)) (unhide HS) ?_
  go_simp
  refine wpAnyH_take (i := 3) (v := .agg #[.int .i64 qr, .int .i64 qa]) rfl (by kernel_rfl) (by kernel_rfl) (by kernel_rfl) (fun _ _ _ h => h) (yields_load rfl 97 _ rfl w.heap.size rfl 97 #[.int .i64 qr, .int .i64 qa] _ (fun w h => h.2) Tryz.underlying97 rfl (by kernel_rfl)) (unhide HS) ?_
  go_simp
  refine wpAnyH_ready (rs := [4]) (by kernel_rfl) (by simp) ?_
  refine AllReadyH.cons rfl (fun K2 hK => ?_) (AllReadyH.nil)
  go_simp
  have P := hide (unhide LD wd (unhide H0).own.rd)
  refine (unhide P).mono ?_
  rintro e w2 ⟨rfl, hb⟩
  have H2 := hide ((unhide H0).later hb)
  have WD := hide (show w.heap.size < wd.heap.size from row_lt (unhide R0))
  have B2 := hide ((unhide BB).trans (hb.mono (by have := unhide WD; omega)))
  have R2 := hide (row_lat (unhide R0) hb)
  refine hK.out _ _ ⟨(unhide H2).row, unhide R2⟩ (fun hS => ?_)
  clear HS
  have HS := hide hS
  clear hS hK K2 hb P LD H0 R0 BB
  refine wpAnyH_take (i := 5) (v := .tuple #[.int .i64 D, .bool false]) rfl (by kernel_rfl) (by kernel_rfl) (by kernel_rfl) (fun _ _ _ h => h) (Or.inl ⟨by rfl, fun w hc => ?_⟩) (unhide HS) ?_
  · clear hc; go_simp
  go_simp
  refine wpAnyH_take (i := 6) (v := .int .i64 D) rfl (by kernel_rfl) (by kernel_rfl) (by kernel_rfl) (fun _ _ _ h => h) (Or.inl ⟨by rfl, fun w hc => ?_⟩) (unhide HS) ?_
  · clear hc; go_simp
  go_simp
  refine wpAnyH_take (i := 7) (v := .bool false) rfl (by kernel_rfl) (by kernel_rfl) (by kernel_rfl) (fun _ _ _ h => h) (Or.inl ⟨by rfl, fun w hc => ?_⟩) (unhide HS) ?_
  · clear hc; go_simp
  go_simp
  refine wpAnyH_take (i := 8) (v := .int .i64 D) rfl (by kernel_rfl) (by kernel_rfl) (by kernel_rfl) (fun _ _ _ h => h) (Or.inl ⟨by rfl, fun w hc => ?_⟩) (unhide HS) ?_
  · clear hc; go_simp
  go_simp
  refine wpAnyH_take (i := 9) (v := .bool false) rfl (by kernel_rfl) (by kernel_rfl) (by kernel_rfl) (fun _ _ _ h => h) (Or.inl ⟨by rfl, fun w hc => ?_⟩) (unhide HS) ?_
  · clear hc; go_simp
  go_simp
  refine wpAnyH_done (by kernel_rfl) ?_ _
  clear HS
  go_wp2_with fail
  go_ret
  exact ⟨rfl, y, fun h => Bool.noConfusion h, Fm.of (unhide B2)⟩
set_option maxHeartbeats 8000000 in
theorem two_3n (B g : Nat) (y : Mv) (t : Ms) (st s qr qa : Int) (w : World) (h : Sm w B g y t st) (hk : Dk t.d) (hs : 0 ≤ s ∧ s ≤ 65535) (hq : t.d.ldB qr qa = false) : TwIs B g y t (t) st 3 s qr qa false w := by
  obtain ⟨s0, s1⟩ := hs
  have GL := hide (show g < w.heap.size from row_lt h.row)
  have YL := hide (fun b (hb : y.at b) => (h.own.lo hb).2)
  have H0 := hide ((h.later (below_new w (Obj.cells #[.int .i64 qr, .int .i64 qa] 97))).later (below_drew (w := (w.alloc (Obj.cells #[.int .i64 qr, .int .i64 qa] 97)))))
  have R0 := hide (row_lat (heap_alloc_last w (Obj.cells #[.int .i64 qr, .int .i64 qa] 97)) (below_drew (w := (w.alloc (Obj.cells #[.int .i64 qr, .int .i64 qa] 97)))))
  have BB := hide ((below_new w (Obj.cells #[.int .i64 qr, .int .i64 qa] 97)).trans ((below_drew (w := (w.alloc (Obj.cells #[.int .i64 qr, .int .i64 qa] 97)))).mono (by simp)))
  have LD := hide (fun v (r : RdM v y t.d) => loadS_any y t.d qr qa v (h.small hk) r)
  rw [hq] at LD
  have DB := hk.ldb qr qa
  have DK := hide hk
  unfold TwIs
  generalize t.d.ldV qr qa = D at LD DB ⊢
  clear h hk hq
  obtain ⟨d0, d1⟩ := DB
  
  go_enter Tryz.func91, Tryz.ntmps91
  go_wp2_with fail
  refine wp_region_held_drew (S := fun v => v.heap[g]? = some (.cells y.cs 26 (0, 0)) ∧ v.heap[w.heap.size]? = some (.cells #[.int .i64 qr, .int .i64 qa] 97 (0, 0))) (by kernel_rfl) ⟨(unhide H0).row, unhide R0⟩ (fun hS => ?_)
  have HS := hide hS
  clear hS
  generalize (w.alloc (Obj.cells #[.int .i64 qr, .int .i64 qa] 97)).drew = wd at H0 R0 BB HS ⊢
  refine wpAnyH_take (i := 0) (v := .pointer (some ⟨g, 0, none⟩)) rfl (by kernel_rfl) (by kernel_rfl) (by kernel_rfl) (fun _ _ _ h => h) (Or.inl ⟨by rfl, fun w hc => ?_⟩) (unhide HS) ?_
  · clear hc; go_simp
  go_simp
  refine wpAnyH_take (i := 1) (v := .pointer (some ⟨g, 0, none⟩)) rfl (by kernel_rfl) (by kernel_rfl) (by kernel_rfl) (fun _ _ _ h => h) (Or.inl ⟨by rfl, fun w hc => ?_⟩) (unhide HS) ?_
  · clear hc; go_simp
  go_simp
  refine wpAnyH_take (i := 2) (v := .agg y.cs) rfl (by kernel_rfl) (by kernel_rfl) (by kernel_rfl) (fun _ _ _ h => h) (yields_load rfl 26 _ rfl g rfl 26 y.cs _ (fun w h => h.1) Tryz.underlying26 rfl (by kernel_rfl)) (unhide HS) ?_
  go_simp
  refine wpAnyH_take (i := 3) (v := .agg #[.int .i64 qr, .int .i64 qa]) rfl (by kernel_rfl) (by kernel_rfl) (by kernel_rfl) (fun _ _ _ h => h) (yields_load rfl 97 _ rfl w.heap.size rfl 97 #[.int .i64 qr, .int .i64 qa] _ (fun w h => h.2) Tryz.underlying97 rfl (by kernel_rfl)) (unhide HS) ?_
  go_simp
  refine wpAnyH_ready (rs := [4]) (by kernel_rfl) (by simp) ?_
  refine AllReadyH.cons rfl (fun K2 hK => ?_) (AllReadyH.nil)
  go_simp
  have P := hide (unhide LD wd (unhide H0).own.rd)
  refine (unhide P).mono ?_
  rintro e w2 ⟨rfl, hb⟩
  have H2 := hide ((unhide H0).later hb)
  have WD := hide (show w.heap.size < wd.heap.size from row_lt (unhide R0))
  have B2 := hide ((unhide BB).trans (hb.mono (by have := unhide WD; omega)))
  have R2 := hide (row_lat (unhide R0) hb)
  refine hK.out _ _ ⟨(unhide H2).row, unhide R2⟩ (fun hS => ?_)
  clear HS
  have HS := hide hS
  clear hS hK K2 hb P LD H0 R0 BB
  refine wpAnyH_take (i := 5) (v := .tuple #[.int .i64 D, .bool false]) rfl (by kernel_rfl) (by kernel_rfl) (by kernel_rfl) (fun _ _ _ h => h) (Or.inl ⟨by rfl, fun w hc => ?_⟩) (unhide HS) ?_
  · clear hc; go_simp
  go_simp
  refine wpAnyH_take (i := 6) (v := .int .i64 D) rfl (by kernel_rfl) (by kernel_rfl) (by kernel_rfl) (fun _ _ _ h => h) (Or.inl ⟨by rfl, fun w hc => ?_⟩) (unhide HS) ?_
  · clear hc; go_simp
  go_simp
  refine wpAnyH_take (i := 7) (v := .bool false) rfl (by kernel_rfl) (by kernel_rfl) (by kernel_rfl) (fun _ _ _ h => h) (Or.inl ⟨by rfl, fun w hc => ?_⟩) (unhide HS) ?_
  · clear hc; go_simp
  go_simp
  refine wpAnyH_take (i := 8) (v := .int .i64 D) rfl (by kernel_rfl) (by kernel_rfl) (by kernel_rfl) (fun _ _ _ h => h) (Or.inl ⟨by rfl, fun w hc => ?_⟩) (unhide HS) ?_
  · clear hc; go_simp
  go_simp
  refine wpAnyH_take (i := 9) (v := .bool false) rfl (by kernel_rfl) (by kernel_rfl) (by kernel_rfl) (fun _ _ _ h => h) (Or.inl ⟨by rfl, fun w hc => ?_⟩) (unhide HS) ?_
  · clear hc; go_simp
  go_simp
  refine wpAnyH_done (by kernel_rfl) ?_ _
  clear HS
  go_wp2_with fail
  go_ret
  exact ⟨rfl, y, fun h => Bool.noConfusion h, Fm.of (unhide B2)⟩
set_option maxHeartbeats 8000000 in
theorem two_4n (B g : Nat) (y : Mv) (t : Ms) (st s qr qa : Int) (w : World) (h : Sm w B g y t st) (hk : Dk t.d) (hs : 0 ≤ s ∧ s ≤ 65535) (hq : t.d.ldB qr qa = false) : TwIs B g y t (t) st 4 s qr qa false w := by
  obtain ⟨s0, s1⟩ := hs
  have GL := hide (show g < w.heap.size from row_lt h.row)
  have YL := hide (fun b (hb : y.at b) => (h.own.lo hb).2)
  have H0 := hide ((h.later (below_new w (Obj.cells #[.int .i64 qr, .int .i64 qa] 97))).later (below_drew (w := (w.alloc (Obj.cells #[.int .i64 qr, .int .i64 qa] 97)))))
  have R0 := hide (row_lat (heap_alloc_last w (Obj.cells #[.int .i64 qr, .int .i64 qa] 97)) (below_drew (w := (w.alloc (Obj.cells #[.int .i64 qr, .int .i64 qa] 97)))))
  have BB := hide ((below_new w (Obj.cells #[.int .i64 qr, .int .i64 qa] 97)).trans ((below_drew (w := (w.alloc (Obj.cells #[.int .i64 qr, .int .i64 qa] 97)))).mono (by simp)))
  have LD := hide (fun v (r : RdM v y t.d) => loadS_any y t.d qr qa v (h.small hk) r)
  rw [hq] at LD
  have DB := hk.ldb qr qa
  have DK := hide hk
  unfold TwIs
  generalize t.d.ldV qr qa = D at LD DB ⊢
  clear h hk hq
  obtain ⟨d0, d1⟩ := DB
  
  go_enter Tryz.func91, Tryz.ntmps91
  go_wp2_with fail
  refine wp_region_held_drew (S := fun v => v.heap[g]? = some (.cells y.cs 26 (0, 0)) ∧ v.heap[w.heap.size]? = some (.cells #[.int .i64 qr, .int .i64 qa] 97 (0, 0))) (by kernel_rfl) ⟨(unhide H0).row, unhide R0⟩ (fun hS => ?_)
  have HS := hide hS
  clear hS
  generalize (w.alloc (Obj.cells #[.int .i64 qr, .int .i64 qa] 97)).drew = wd at H0 R0 BB HS ⊢
  refine wpAnyH_take (i := 0) (v := .pointer (some ⟨g, 0, none⟩)) rfl (by kernel_rfl) (by kernel_rfl) (by kernel_rfl) (fun _ _ _ h => h) (Or.inl ⟨by rfl, fun w hc => ?_⟩) (unhide HS) ?_
  · clear hc; go_simp
  go_simp
  refine wpAnyH_take (i := 1) (v := .pointer (some ⟨g, 0, none⟩)) rfl (by kernel_rfl) (by kernel_rfl) (by kernel_rfl) (fun _ _ _ h => h) (Or.inl ⟨by rfl, fun w hc => ?_⟩) (unhide HS) ?_
  · clear hc; go_simp
  go_simp
  refine wpAnyH_take (i := 2) (v := .agg y.cs) rfl (by kernel_rfl) (by kernel_rfl) (by kernel_rfl) (fun _ _ _ h => h) (yields_load rfl 26 _ rfl g rfl 26 y.cs _ (fun w h => h.1) Tryz.underlying26 rfl (by kernel_rfl)) (unhide HS) ?_
  go_simp
  refine wpAnyH_take (i := 3) (v := .agg #[.int .i64 qr, .int .i64 qa]) rfl (by kernel_rfl) (by kernel_rfl) (by kernel_rfl) (fun _ _ _ h => h) (yields_load rfl 97 _ rfl w.heap.size rfl 97 #[.int .i64 qr, .int .i64 qa] _ (fun w h => h.2) Tryz.underlying97 rfl (by kernel_rfl)) (unhide HS) ?_
  go_simp
  refine wpAnyH_ready (rs := [4]) (by kernel_rfl) (by simp) ?_
  refine AllReadyH.cons rfl (fun K2 hK => ?_) (AllReadyH.nil)
  go_simp
  have P := hide (unhide LD wd (unhide H0).own.rd)
  refine (unhide P).mono ?_
  rintro e w2 ⟨rfl, hb⟩
  have H2 := hide ((unhide H0).later hb)
  have WD := hide (show w.heap.size < wd.heap.size from row_lt (unhide R0))
  have B2 := hide ((unhide BB).trans (hb.mono (by have := unhide WD; omega)))
  have R2 := hide (row_lat (unhide R0) hb)
  refine hK.out _ _ ⟨(unhide H2).row, unhide R2⟩ (fun hS => ?_)
  clear HS
  have HS := hide hS
  clear hS hK K2 hb P LD H0 R0 BB
  refine wpAnyH_take (i := 5) (v := .tuple #[.int .i64 D, .bool false]) rfl (by kernel_rfl) (by kernel_rfl) (by kernel_rfl) (fun _ _ _ h => h) (Or.inl ⟨by rfl, fun w hc => ?_⟩) (unhide HS) ?_
  · clear hc; go_simp
  go_simp
  refine wpAnyH_take (i := 6) (v := .int .i64 D) rfl (by kernel_rfl) (by kernel_rfl) (by kernel_rfl) (fun _ _ _ h => h) (Or.inl ⟨by rfl, fun w hc => ?_⟩) (unhide HS) ?_
  · clear hc; go_simp
  go_simp
  refine wpAnyH_take (i := 7) (v := .bool false) rfl (by kernel_rfl) (by kernel_rfl) (by kernel_rfl) (fun _ _ _ h => h) (Or.inl ⟨by rfl, fun w hc => ?_⟩) (unhide HS) ?_
  · clear hc; go_simp
  go_simp
  refine wpAnyH_take (i := 8) (v := .int .i64 D) rfl (by kernel_rfl) (by kernel_rfl) (by kernel_rfl) (fun _ _ _ h => h) (Or.inl ⟨by rfl, fun w hc => ?_⟩) (unhide HS) ?_
  · clear hc; go_simp
  go_simp
  refine wpAnyH_take (i := 9) (v := .bool false) rfl (by kernel_rfl) (by kernel_rfl) (by kernel_rfl) (fun _ _ _ h => h) (Or.inl ⟨by rfl, fun w hc => ?_⟩) (unhide HS) ?_
  · clear hc; go_simp
  go_simp
  refine wpAnyH_done (by kernel_rfl) ?_ _
  clear HS
  go_wp2_with fail
  go_ret
  exact ⟨rfl, y, fun h => Bool.noConfusion h, Fm.of (unhide B2)⟩
set_option maxHeartbeats 8000000 in
theorem two_5n (B g : Nat) (y : Mv) (t : Ms) (st s qr qa : Int) (w : World) (h : Sm w B g y t st) (hk : Dk t.d) (hs : 0 ≤ s ∧ s ≤ 65535) (hq : t.d.ldB qr qa = false) : TwIs B g y t (t) st 5 s qr qa false w := by
  obtain ⟨s0, s1⟩ := hs
  have GL := hide (show g < w.heap.size from row_lt h.row)
  have YL := hide (fun b (hb : y.at b) => (h.own.lo hb).2)
  have H0 := hide ((h.later (below_new w (Obj.cells #[.int .i64 qr, .int .i64 qa] 97))).later (below_drew (w := (w.alloc (Obj.cells #[.int .i64 qr, .int .i64 qa] 97)))))
  have R0 := hide (row_lat (heap_alloc_last w (Obj.cells #[.int .i64 qr, .int .i64 qa] 97)) (below_drew (w := (w.alloc (Obj.cells #[.int .i64 qr, .int .i64 qa] 97)))))
  have BB := hide ((below_new w (Obj.cells #[.int .i64 qr, .int .i64 qa] 97)).trans ((below_drew (w := (w.alloc (Obj.cells #[.int .i64 qr, .int .i64 qa] 97)))).mono (by simp)))
  have LD := hide (fun v (r : RdM v y t.d) => loadS_any y t.d qr qa v (h.small hk) r)
  rw [hq] at LD
  have DB := hk.ldb qr qa
  have DK := hide hk
  unfold TwIs
  generalize t.d.ldV qr qa = D at LD DB ⊢
  clear h hk hq
  obtain ⟨d0, d1⟩ := DB
  
  go_enter Tryz.func91, Tryz.ntmps91
  go_wp2_with fail
  refine wp_region_held_drew (S := fun v => v.heap[g]? = some (.cells y.cs 26 (0, 0)) ∧ v.heap[w.heap.size]? = some (.cells #[.int .i64 qr, .int .i64 qa] 97 (0, 0))) (by kernel_rfl) ⟨(unhide H0).row, unhide R0⟩ (fun hS => ?_)
  have HS := hide hS
  clear hS
  generalize (w.alloc (Obj.cells #[.int .i64 qr, .int .i64 qa] 97)).drew = wd at H0 R0 BB HS ⊢
  refine wpAnyH_take (i := 0) (v := .pointer (some ⟨g, 0, none⟩)) rfl (by kernel_rfl) (by kernel_rfl) (by kernel_rfl) (fun _ _ _ h => h) (Or.inl ⟨by rfl, fun w hc => ?_⟩) (unhide HS) ?_
  · clear hc; go_simp
  go_simp
  refine wpAnyH_take (i := 1) (v := .pointer (some ⟨g, 0, none⟩)) rfl (by kernel_rfl) (by kernel_rfl) (by kernel_rfl) (fun _ _ _ h => h) (Or.inl ⟨by rfl, fun w hc => ?_⟩) (unhide HS) ?_
  · clear hc; go_simp
  go_simp
  refine wpAnyH_take (i := 2) (v := .agg y.cs) rfl (by kernel_rfl) (by kernel_rfl) (by kernel_rfl) (fun _ _ _ h => h) (yields_load rfl 26 _ rfl g rfl 26 y.cs _ (fun w h => h.1) Tryz.underlying26 rfl (by kernel_rfl)) (unhide HS) ?_
  go_simp
  refine wpAnyH_take (i := 3) (v := .agg #[.int .i64 qr, .int .i64 qa]) rfl (by kernel_rfl) (by kernel_rfl) (by kernel_rfl) (fun _ _ _ h => h) (yields_load rfl 97 _ rfl w.heap.size rfl 97 #[.int .i64 qr, .int .i64 qa] _ (fun w h => h.2) Tryz.underlying97 rfl (by kernel_rfl)) (unhide HS) ?_
  go_simp
  refine wpAnyH_ready (rs := [4]) (by kernel_rfl) (by simp) ?_
  refine AllReadyH.cons rfl (fun K2 hK => ?_) (AllReadyH.nil)
  go_simp
  have P := hide (unhide LD wd (unhide H0).own.rd)
  refine (unhide P).mono ?_
  rintro e w2 ⟨rfl, hb⟩
  have H2 := hide ((unhide H0).later hb)
  have WD := hide (show w.heap.size < wd.heap.size from row_lt (unhide R0))
  have B2 := hide ((unhide BB).trans (hb.mono (by have := unhide WD; omega)))
  have R2 := hide (row_lat (unhide R0) hb)
  refine hK.out _ _ ⟨(unhide H2).row, unhide R2⟩ (fun hS => ?_)
  clear HS
  have HS := hide hS
  clear hS hK K2 hb P LD H0 R0 BB
  refine wpAnyH_take (i := 5) (v := .tuple #[.int .i64 D, .bool false]) rfl (by kernel_rfl) (by kernel_rfl) (by kernel_rfl) (fun _ _ _ h => h) (Or.inl ⟨by rfl, fun w hc => ?_⟩) (unhide HS) ?_
  · clear hc; go_simp
  go_simp
  refine wpAnyH_take (i := 6) (v := .int .i64 D) rfl (by kernel_rfl) (by kernel_rfl) (by kernel_rfl) (fun _ _ _ h => h) (Or.inl ⟨by rfl, fun w hc => ?_⟩) (unhide HS) ?_
  · clear hc; go_simp
  go_simp
  refine wpAnyH_take (i := 7) (v := .bool false) rfl (by kernel_rfl) (by kernel_rfl) (by kernel_rfl) (fun _ _ _ h => h) (Or.inl ⟨by rfl, fun w hc => ?_⟩) (unhide HS) ?_
  · clear hc; go_simp
  go_simp
  refine wpAnyH_take (i := 8) (v := .int .i64 D) rfl (by kernel_rfl) (by kernel_rfl) (by kernel_rfl) (fun _ _ _ h => h) (Or.inl ⟨by rfl, fun w hc => ?_⟩) (unhide HS) ?_
  · clear hc; go_simp
  go_simp
  refine wpAnyH_take (i := 9) (v := .bool false) rfl (by kernel_rfl) (by kernel_rfl) (by kernel_rfl) (fun _ _ _ h => h) (Or.inl ⟨by rfl, fun w hc => ?_⟩) (unhide HS) ?_
  · clear hc; go_simp
  go_simp
  refine wpAnyH_done (by kernel_rfl) ?_ _
  clear HS
  go_wp2_with fail
  go_ret
  exact ⟨rfl, y, fun h => Bool.noConfusion h, Fm.of (unhide B2)⟩
set_option maxHeartbeats 8000000 in
theorem two_6n (B g : Nat) (y : Mv) (t : Ms) (st s qr qa : Int) (w : World) (h : Sm w B g y t st) (hk : Dk t.d) (hs : 0 ≤ s ∧ s ≤ 65535) (hq : t.d.ldB qr qa = false) : TwIs B g y t (t) st 6 s qr qa false w := by
  obtain ⟨s0, s1⟩ := hs
  have GL := hide (show g < w.heap.size from row_lt h.row)
  have YL := hide (fun b (hb : y.at b) => (h.own.lo hb).2)
  have H0 := hide ((h.later (below_new w (Obj.cells #[.int .i64 qr, .int .i64 qa] 97))).later (below_drew (w := (w.alloc (Obj.cells #[.int .i64 qr, .int .i64 qa] 97)))))
  have R0 := hide (row_lat (heap_alloc_last w (Obj.cells #[.int .i64 qr, .int .i64 qa] 97)) (below_drew (w := (w.alloc (Obj.cells #[.int .i64 qr, .int .i64 qa] 97)))))
  have BB := hide ((below_new w (Obj.cells #[.int .i64 qr, .int .i64 qa] 97)).trans ((below_drew (w := (w.alloc (Obj.cells #[.int .i64 qr, .int .i64 qa] 97)))).mono (by simp)))
  have LD := hide (fun v (r : RdM v y t.d) => loadS_any y t.d qr qa v (h.small hk) r)
  rw [hq] at LD
  have DB := hk.ldb qr qa
  have DK := hide hk
  unfold TwIs
  generalize t.d.ldV qr qa = D at LD DB ⊢
  clear h hk hq
  obtain ⟨d0, d1⟩ := DB
  
  go_enter Tryz.func91, Tryz.ntmps91
  go_wp2_with fail
  refine wp_region_held_drew (S := fun v => v.heap[g]? = some (.cells y.cs 26 (0, 0)) ∧ v.heap[w.heap.size]? = some (.cells #[.int .i64 qr, .int .i64 qa] 97 (0, 0))) (by kernel_rfl) ⟨(unhide H0).row, unhide R0⟩ (fun hS => ?_)
  have HS := hide hS
  clear hS
  generalize (w.alloc (Obj.cells #[.int .i64 qr, .int .i64 qa] 97)).drew = wd at H0 R0 BB HS ⊢
  refine wpAnyH_take (i := 0) (v := .pointer (some ⟨g, 0, none⟩)) rfl (by kernel_rfl) (by kernel_rfl) (by kernel_rfl) (fun _ _ _ h => h) (Or.inl ⟨by rfl, fun w hc => ?_⟩) (unhide HS) ?_
  · clear hc; go_simp
  go_simp
  refine wpAnyH_take (i := 1) (v := .pointer (some ⟨g, 0, none⟩)) rfl (by kernel_rfl) (by kernel_rfl) (by kernel_rfl) (fun _ _ _ h => h) (Or.inl ⟨by rfl, fun w hc => ?_⟩) (unhide HS) ?_
  · clear hc; go_simp
  go_simp
  refine wpAnyH_take (i := 2) (v := .agg y.cs) rfl (by kernel_rfl) (by kernel_rfl) (by kernel_rfl) (fun _ _ _ h => h) (yields_load rfl 26 _ rfl g rfl 26 y.cs _ (fun w h => h.1) Tryz.underlying26 rfl (by kernel_rfl)) (unhide HS) ?_
  go_simp
  refine wpAnyH_take (i := 3) (v := .agg #[.int .i64 qr, .int .i64 qa]) rfl (by kernel_rfl) (by kernel_rfl) (by kernel_rfl) (fun _ _ _ h => h) (yields_load rfl 97 _ rfl w.heap.size rfl 97 #[.int .i64 qr, .int .i64 qa] _ (fun w h => h.2) Tryz.underlying97 rfl (by kernel_rfl)) (unhide HS) ?_
  go_simp
  refine wpAnyH_ready (rs := [4]) (by kernel_rfl) (by simp) ?_
  refine AllReadyH.cons rfl (fun K2 hK => ?_) (AllReadyH.nil)
  go_simp
  have P := hide (unhide LD wd (unhide H0).own.rd)
  refine (unhide P).mono ?_
  rintro e w2 ⟨rfl, hb⟩
  have H2 := hide ((unhide H0).later hb)
  have WD := hide (show w.heap.size < wd.heap.size from row_lt (unhide R0))
  have B2 := hide ((unhide BB).trans (hb.mono (by have := unhide WD; omega)))
  have R2 := hide (row_lat (unhide R0) hb)
  refine hK.out _ _ ⟨(unhide H2).row, unhide R2⟩ (fun hS => ?_)
  clear HS
  have HS := hide hS
  clear hS hK K2 hb P LD H0 R0 BB
  refine wpAnyH_take (i := 5) (v := .tuple #[.int .i64 D, .bool false]) rfl (by kernel_rfl) (by kernel_rfl) (by kernel_rfl) (fun _ _ _ h => h) (Or.inl ⟨by rfl, fun w hc => ?_⟩) (unhide HS) ?_
  · clear hc; go_simp
  go_simp
  refine wpAnyH_take (i := 6) (v := .int .i64 D) rfl (by kernel_rfl) (by kernel_rfl) (by kernel_rfl) (fun _ _ _ h => h) (Or.inl ⟨by rfl, fun w hc => ?_⟩) (unhide HS) ?_
  · clear hc; go_simp
  go_simp
  refine wpAnyH_take (i := 7) (v := .bool false) rfl (by kernel_rfl) (by kernel_rfl) (by kernel_rfl) (fun _ _ _ h => h) (Or.inl ⟨by rfl, fun w hc => ?_⟩) (unhide HS) ?_
  · clear hc; go_simp
  go_simp
  refine wpAnyH_take (i := 8) (v := .int .i64 D) rfl (by kernel_rfl) (by kernel_rfl) (by kernel_rfl) (fun _ _ _ h => h) (Or.inl ⟨by rfl, fun w hc => ?_⟩) (unhide HS) ?_
  · clear hc; go_simp
  go_simp
  refine wpAnyH_take (i := 9) (v := .bool false) rfl (by kernel_rfl) (by kernel_rfl) (by kernel_rfl) (fun _ _ _ h => h) (Or.inl ⟨by rfl, fun w hc => ?_⟩) (unhide HS) ?_
  · clear hc; go_simp
  go_simp
  refine wpAnyH_done (by kernel_rfl) ?_ _
  clear HS
  go_wp2_with fail
  go_ret
  exact ⟨rfl, y, fun h => Bool.noConfusion h, Fm.of (unhide B2)⟩
end Go.Proofs.YtjpbjbnialehbaaGreatDoor

namespace Go.Proofs.YtjpbjbnialehbaaGreatDoor
open Go.ChangeShapes Go.WideShapes Go.ChangeAt Go.RowKit
set_option linter.unusedVariables false
set_option maxRecDepth 8000
set_option linter.unusedSimpArgs false
set_option maxHeartbeats 8000000 in
theorem two_2 (B g : Nat) (y : Mv) (t : Ms) (st s qr qa : Int) (w : World) (h : Sm w B g y t st) (hk : Dk t.d) (hs : 0 ≤ s ∧ s ≤ 65535) (hq : t.d.ldB qr qa = true) : TwIs B g y t (t.two 2 s qr qa) st 2 s qr qa true w := by
  have HQ := hide hq
  obtain ⟨s0, s1⟩ := hs
  have GL := hide (show g < w.heap.size from row_lt h.row)
  have YL := hide (fun b (hb : y.at b) => (h.own.lo hb).2)
  have H0 := hide ((h.later (below_new w (Obj.cells #[.int .i64 qr, .int .i64 qa] 97))).later (below_drew (w := (w.alloc (Obj.cells #[.int .i64 qr, .int .i64 qa] 97)))))
  have R0 := hide (row_lat (heap_alloc_last w (Obj.cells #[.int .i64 qr, .int .i64 qa] 97)) (below_drew (w := (w.alloc (Obj.cells #[.int .i64 qr, .int .i64 qa] 97)))))
  have BB := hide ((below_new w (Obj.cells #[.int .i64 qr, .int .i64 qa] 97)).trans ((below_drew (w := (w.alloc (Obj.cells #[.int .i64 qr, .int .i64 qa] 97)))).mono (by simp)))
  have LD := hide (fun v (r : RdM v y t.d) => loadS_any y t.d qr qa v (h.small hk) r)
  rw [hq] at LD
  have DB := hk.ldb qr qa
  have DK := hide hk
  unfold TwIs Ms.two
  
  generalize t.d.ldV qr qa = D at LD DB ⊢
  clear h hk hq
  obtain ⟨d0, d1⟩ := DB
  have WR := hide (fun v => wrapS_any (s - D) v)
  generalize (s - D) % 65536 = r at WR ⊢
  have SG1 := hide (fun v => sign_any s v)
  generalize sgB s = b1 at SG1 ⊢
  have SG2 := hide (fun v => sign_any D v)
  generalize sgB D = b2 at SG2 ⊢
  have SG3 := hide (fun v => sign_any r v)
  generalize sgB r = b3 at SG3 ⊢
  go_enter Tryz.func91, Tryz.ntmps91
  go_wp2_with fail
  refine wp_region_held_drew (S := fun v => v.heap[g]? = some (.cells y.cs 26 (0, 0)) ∧ v.heap[w.heap.size]? = some (.cells #[.int .i64 qr, .int .i64 qa] 97 (0, 0))) (by kernel_rfl) ⟨(unhide H0).row, unhide R0⟩ (fun hS => ?_)
  have HS := hide hS
  clear hS
  generalize (w.alloc (Obj.cells #[.int .i64 qr, .int .i64 qa] 97)).drew = wd at H0 R0 BB HS ⊢
  refine wpAnyH_take (i := 0) (v := .pointer (some ⟨g, 0, none⟩)) rfl (by kernel_rfl) (by kernel_rfl) (by kernel_rfl) (fun _ _ _ h => h) (Or.inl ⟨by rfl, fun w hc => ?_⟩) (unhide HS) ?_
  · clear hc; go_simp
  go_simp
  refine wpAnyH_take (i := 1) (v := .pointer (some ⟨g, 0, none⟩)) rfl (by kernel_rfl) (by kernel_rfl) (by kernel_rfl) (fun _ _ _ h => h) (Or.inl ⟨by rfl, fun w hc => ?_⟩) (unhide HS) ?_
  · clear hc; go_simp
  go_simp
  refine wpAnyH_take (i := 2) (v := .agg y.cs) rfl (by kernel_rfl) (by kernel_rfl) (by kernel_rfl) (fun _ _ _ h => h) (yields_load rfl 26 _ rfl g rfl 26 y.cs _ (fun w h => h.1) Tryz.underlying26 rfl (by kernel_rfl)) (unhide HS) ?_
  go_simp
  refine wpAnyH_take (i := 3) (v := .agg #[.int .i64 qr, .int .i64 qa]) rfl (by kernel_rfl) (by kernel_rfl) (by kernel_rfl) (fun _ _ _ h => h) (yields_load rfl 97 _ rfl w.heap.size rfl 97 #[.int .i64 qr, .int .i64 qa] _ (fun w h => h.2) Tryz.underlying97 rfl (by kernel_rfl)) (unhide HS) ?_
  go_simp
  refine wpAnyH_ready (rs := [4]) (by kernel_rfl) (by simp) ?_
  refine AllReadyH.cons rfl (fun K2 hK => ?_) (AllReadyH.nil)
  go_simp
  have P := hide (unhide LD wd (unhide H0).own.rd)
  refine (unhide P).mono ?_
  rintro e w2 ⟨rfl, hb⟩
  have H2 := hide ((unhide H0).later hb)
  have WD := hide (show w.heap.size < wd.heap.size from row_lt (unhide R0))
  have B2 := hide ((unhide BB).trans (hb.mono (by have := unhide WD; omega)))
  have R2 := hide (row_lat (unhide R0) hb)
  refine hK.out _ _ ⟨(unhide H2).row, unhide R2⟩ (fun hS => ?_)
  clear HS
  have HS := hide hS
  clear hS hK K2 hb P LD H0 R0 BB
  refine wpAnyH_take (i := 5) (v := .tuple #[.int .i64 D, .bool true]) rfl (by kernel_rfl) (by kernel_rfl) (by kernel_rfl) (fun _ _ _ h => h) (Or.inl ⟨by rfl, fun w hc => ?_⟩) (unhide HS) ?_
  · clear hc; go_simp
  go_simp
  refine wpAnyH_take (i := 6) (v := .int .i64 D) rfl (by kernel_rfl) (by kernel_rfl) (by kernel_rfl) (fun _ _ _ h => h) (Or.inl ⟨by rfl, fun w hc => ?_⟩) (unhide HS) ?_
  · clear hc; go_simp
  go_simp
  refine wpAnyH_take (i := 7) (v := .bool true) rfl (by kernel_rfl) (by kernel_rfl) (by kernel_rfl) (fun _ _ _ h => h) (Or.inl ⟨by rfl, fun w hc => ?_⟩) (unhide HS) ?_
  · clear hc; go_simp
  go_simp
  refine wpAnyH_take (i := 8) (v := .int .i64 D) rfl (by kernel_rfl) (by kernel_rfl) (by kernel_rfl) (fun _ _ _ h => h) (Or.inl ⟨by rfl, fun w hc => ?_⟩) (unhide HS) ?_
  · clear hc; go_simp
  go_simp
  refine wpAnyH_take (i := 9) (v := .bool true) rfl (by kernel_rfl) (by kernel_rfl) (by kernel_rfl) (fun _ _ _ h => h) (Or.inl ⟨by rfl, fun w hc => ?_⟩) (unhide HS) ?_
  · clear hc; go_simp
  go_simp
  refine wpAnyH_done (by kernel_rfl) ?_ _
  clear HS
  go_wp2_with fail
  refine (unhide WR _).mono ?_
  rintro e w9 ⟨rfl, hw9⟩
  rw [hw9]
  clear hw9 w9
  go_wp2_with fail
  refine (unhide SG1 _).mono ?_
  rintro e w9 ⟨rfl, hw9⟩
  rw [hw9]
  clear hw9 w9
  go_wp2_with fail
  refine (unhide SG2 _).mono ?_
  rintro e w9 ⟨rfl, hw9⟩
  rw [hw9]
  clear hw9 w9
  cases b1 <;> cases b2
  · skip
    have NZ := hide (nz_any B g y t st r (((false : Bool) != (false : Bool)) && ((b3 : Bool) == (false : Bool))) w2 (unhide H2))
    go_wp2_with fail
    refine (unhide NZ).mono ?_
    rintro e w3 ⟨rfl, h3, f3⟩
    have H3 := hide h3
    have F3 := hide ((Fm.of (unhide B2)).trans f3)
    have R3 := hide (f3.row (unhide R2) (by have := unhide GL; omega) (fun e => by have := unhide YL _ e; omega))
    clear h3 f3 NZ H2 B2 R2
    have c5 := row_c (unhide H3).row
    have f5 := row_fz (unhide H3).row 5
    obtain ⟨h4, f4⟩ := (unhide H3).setC (decide (s < D))
    have H4 := hide h4
    have F4 := hide ((unhide F3).trans f4)
    have R4 := hide (f4.row (unhide R3) (by have := unhide GL; omega) (fun e => by have := unhide YL _ e; omega))
    clear h4 f4
    go_wp2
    go_ret
    exact ⟨rfl, _, fun _ => unhide H4, unhide F4⟩
  · skip
    go_wp2_with fail
    refine (unhide SG3 _).mono ?_
    rintro e w9 ⟨rfl, hw9⟩
    rw [hw9]
    clear hw9 w9
    go_wp2_with fail
    refine (unhide SG2 _).mono ?_
    rintro e w9 ⟨rfl, hw9⟩
    rw [hw9]
    clear hw9 w9
    cases b3
    · skip
      have NZ := hide (nz_any B g y t st r (((false : Bool) != (true : Bool)) && ((false : Bool) == (true : Bool))) w2 (unhide H2))
      go_wp2_with fail
      refine (unhide NZ).mono ?_
      rintro e w3 ⟨rfl, h3, f3⟩
      have H3 := hide h3
      have F3 := hide ((Fm.of (unhide B2)).trans f3)
      have R3 := hide (f3.row (unhide R2) (by have := unhide GL; omega) (fun e => by have := unhide YL _ e; omega))
      clear h3 f3 NZ H2 B2 R2
      have c5 := row_c (unhide H3).row
      have f5 := row_fz (unhide H3).row 5
      obtain ⟨h4, f4⟩ := (unhide H3).setC (decide (s < D))
      have H4 := hide h4
      have F4 := hide ((unhide F3).trans f4)
      have R4 := hide (f4.row (unhide R3) (by have := unhide GL; omega) (fun e => by have := unhide YL _ e; omega))
      clear h4 f4
      go_wp2
      go_ret
      exact ⟨rfl, _, fun _ => unhide H4, unhide F4⟩
    · skip
      have NZ := hide (nz_any B g y t st r (((false : Bool) != (true : Bool)) && ((true : Bool) == (true : Bool))) w2 (unhide H2))
      go_wp2_with fail
      refine (unhide NZ).mono ?_
      rintro e w3 ⟨rfl, h3, f3⟩
      have H3 := hide h3
      have F3 := hide ((Fm.of (unhide B2)).trans f3)
      have R3 := hide (f3.row (unhide R2) (by have := unhide GL; omega) (fun e => by have := unhide YL _ e; omega))
      clear h3 f3 NZ H2 B2 R2
      have c5 := row_c (unhide H3).row
      have f5 := row_fz (unhide H3).row 5
      obtain ⟨h4, f4⟩ := (unhide H3).setC (decide (s < D))
      have H4 := hide h4
      have F4 := hide ((unhide F3).trans f4)
      have R4 := hide (f4.row (unhide R3) (by have := unhide GL; omega) (fun e => by have := unhide YL _ e; omega))
      clear h4 f4
      go_wp2
      go_ret
      exact ⟨rfl, _, fun _ => unhide H4, unhide F4⟩
  · skip
    go_wp2_with fail
    refine (unhide SG3 _).mono ?_
    rintro e w9 ⟨rfl, hw9⟩
    rw [hw9]
    clear hw9 w9
    go_wp2_with fail
    refine (unhide SG2 _).mono ?_
    rintro e w9 ⟨rfl, hw9⟩
    rw [hw9]
    clear hw9 w9
    cases b3
    · skip
      have NZ := hide (nz_any B g y t st r (((true : Bool) != (false : Bool)) && ((false : Bool) == (false : Bool))) w2 (unhide H2))
      go_wp2_with fail
      refine (unhide NZ).mono ?_
      rintro e w3 ⟨rfl, h3, f3⟩
      have H3 := hide h3
      have F3 := hide ((Fm.of (unhide B2)).trans f3)
      have R3 := hide (f3.row (unhide R2) (by have := unhide GL; omega) (fun e => by have := unhide YL _ e; omega))
      clear h3 f3 NZ H2 B2 R2
      have c5 := row_c (unhide H3).row
      have f5 := row_fz (unhide H3).row 5
      obtain ⟨h4, f4⟩ := (unhide H3).setC (decide (s < D))
      have H4 := hide h4
      have F4 := hide ((unhide F3).trans f4)
      have R4 := hide (f4.row (unhide R3) (by have := unhide GL; omega) (fun e => by have := unhide YL _ e; omega))
      clear h4 f4
      go_wp2
      go_ret
      exact ⟨rfl, _, fun _ => unhide H4, unhide F4⟩
    · skip
      have NZ := hide (nz_any B g y t st r (((true : Bool) != (false : Bool)) && ((true : Bool) == (false : Bool))) w2 (unhide H2))
      go_wp2_with fail
      refine (unhide NZ).mono ?_
      rintro e w3 ⟨rfl, h3, f3⟩
      have H3 := hide h3
      have F3 := hide ((Fm.of (unhide B2)).trans f3)
      have R3 := hide (f3.row (unhide R2) (by have := unhide GL; omega) (fun e => by have := unhide YL _ e; omega))
      clear h3 f3 NZ H2 B2 R2
      have c5 := row_c (unhide H3).row
      have f5 := row_fz (unhide H3).row 5
      obtain ⟨h4, f4⟩ := (unhide H3).setC (decide (s < D))
      have H4 := hide h4
      have F4 := hide ((unhide F3).trans f4)
      have R4 := hide (f4.row (unhide R3) (by have := unhide GL; omega) (fun e => by have := unhide YL _ e; omega))
      clear h4 f4
      go_wp2
      go_ret
      exact ⟨rfl, _, fun _ => unhide H4, unhide F4⟩
  · skip
    have NZ := hide (nz_any B g y t st r (((true : Bool) != (true : Bool)) && ((b3 : Bool) == (true : Bool))) w2 (unhide H2))
    go_wp2_with fail
    refine (unhide NZ).mono ?_
    rintro e w3 ⟨rfl, h3, f3⟩
    have H3 := hide h3
    have F3 := hide ((Fm.of (unhide B2)).trans f3)
    have R3 := hide (f3.row (unhide R2) (by have := unhide GL; omega) (fun e => by have := unhide YL _ e; omega))
    clear h3 f3 NZ H2 B2 R2
    have c5 := row_c (unhide H3).row
    have f5 := row_fz (unhide H3).row 5
    obtain ⟨h4, f4⟩ := (unhide H3).setC (decide (s < D))
    have H4 := hide h4
    have F4 := hide ((unhide F3).trans f4)
    have R4 := hide (f4.row (unhide R3) (by have := unhide GL; omega) (fun e => by have := unhide YL _ e; omega))
    clear h4 f4
    go_wp2
    go_ret
    exact ⟨rfl, _, fun _ => unhide H4, unhide F4⟩
set_option maxHeartbeats 8000000 in
theorem two_3 (B g : Nat) (y : Mv) (t : Ms) (st s qr qa : Int) (w : World) (h : Sm w B g y t st) (hk : Dk t.d) (hs : 0 ≤ s ∧ s ≤ 65535) (hq : t.d.ldB qr qa = true) : TwIs B g y t (t.two 3 s qr qa) st 3 s qr qa true w := by
  have HQ := hide hq
  obtain ⟨s0, s1⟩ := hs
  have GL := hide (show g < w.heap.size from row_lt h.row)
  have YL := hide (fun b (hb : y.at b) => (h.own.lo hb).2)
  have H0 := hide ((h.later (below_new w (Obj.cells #[.int .i64 qr, .int .i64 qa] 97))).later (below_drew (w := (w.alloc (Obj.cells #[.int .i64 qr, .int .i64 qa] 97)))))
  have R0 := hide (row_lat (heap_alloc_last w (Obj.cells #[.int .i64 qr, .int .i64 qa] 97)) (below_drew (w := (w.alloc (Obj.cells #[.int .i64 qr, .int .i64 qa] 97)))))
  have BB := hide ((below_new w (Obj.cells #[.int .i64 qr, .int .i64 qa] 97)).trans ((below_drew (w := (w.alloc (Obj.cells #[.int .i64 qr, .int .i64 qa] 97)))).mono (by simp)))
  have LD := hide (fun v (r : RdM v y t.d) => loadS_any y t.d qr qa v (h.small hk) r)
  rw [hq] at LD
  have DB := hk.ldb qr qa
  have DK := hide hk
  unfold TwIs Ms.two
  
  generalize t.d.ldV qr qa = D at LD DB ⊢
  clear h hk hq
  obtain ⟨d0, d1⟩ := DB
  obtain ⟨X, hX⟩ : ∃ q, bits .andNot .i64 D s = q := ⟨_, rfl⟩
  rw [hX]
  have HX := hX
  clear hX
  go_enter Tryz.func91, Tryz.ntmps91
  go_wp2_with fail
  refine wp_region_held_drew (S := fun v => v.heap[g]? = some (.cells y.cs 26 (0, 0)) ∧ v.heap[w.heap.size]? = some (.cells #[.int .i64 qr, .int .i64 qa] 97 (0, 0))) (by kernel_rfl) ⟨(unhide H0).row, unhide R0⟩ (fun hS => ?_)
  have HS := hide hS
  clear hS
  generalize (w.alloc (Obj.cells #[.int .i64 qr, .int .i64 qa] 97)).drew = wd at H0 R0 BB HS ⊢
  refine wpAnyH_take (i := 0) (v := .pointer (some ⟨g, 0, none⟩)) rfl (by kernel_rfl) (by kernel_rfl) (by kernel_rfl) (fun _ _ _ h => h) (Or.inl ⟨by rfl, fun w hc => ?_⟩) (unhide HS) ?_
  · clear hc; go_simp
  go_simp
  refine wpAnyH_take (i := 1) (v := .pointer (some ⟨g, 0, none⟩)) rfl (by kernel_rfl) (by kernel_rfl) (by kernel_rfl) (fun _ _ _ h => h) (Or.inl ⟨by rfl, fun w hc => ?_⟩) (unhide HS) ?_
  · clear hc; go_simp
  go_simp
  refine wpAnyH_take (i := 2) (v := .agg y.cs) rfl (by kernel_rfl) (by kernel_rfl) (by kernel_rfl) (fun _ _ _ h => h) (yields_load rfl 26 _ rfl g rfl 26 y.cs _ (fun w h => h.1) Tryz.underlying26 rfl (by kernel_rfl)) (unhide HS) ?_
  go_simp
  refine wpAnyH_take (i := 3) (v := .agg #[.int .i64 qr, .int .i64 qa]) rfl (by kernel_rfl) (by kernel_rfl) (by kernel_rfl) (fun _ _ _ h => h) (yields_load rfl 97 _ rfl w.heap.size rfl 97 #[.int .i64 qr, .int .i64 qa] _ (fun w h => h.2) Tryz.underlying97 rfl (by kernel_rfl)) (unhide HS) ?_
  go_simp
  refine wpAnyH_ready (rs := [4]) (by kernel_rfl) (by simp) ?_
  refine AllReadyH.cons rfl (fun K2 hK => ?_) (AllReadyH.nil)
  go_simp
  have P := hide (unhide LD wd (unhide H0).own.rd)
  refine (unhide P).mono ?_
  rintro e w2 ⟨rfl, hb⟩
  have H2 := hide ((unhide H0).later hb)
  have WD := hide (show w.heap.size < wd.heap.size from row_lt (unhide R0))
  have B2 := hide ((unhide BB).trans (hb.mono (by have := unhide WD; omega)))
  have R2 := hide (row_lat (unhide R0) hb)
  refine hK.out _ _ ⟨(unhide H2).row, unhide R2⟩ (fun hS => ?_)
  clear HS
  have HS := hide hS
  clear hS hK K2 hb P LD H0 R0 BB
  refine wpAnyH_take (i := 5) (v := .tuple #[.int .i64 D, .bool true]) rfl (by kernel_rfl) (by kernel_rfl) (by kernel_rfl) (fun _ _ _ h => h) (Or.inl ⟨by rfl, fun w hc => ?_⟩) (unhide HS) ?_
  · clear hc; go_simp
  go_simp
  refine wpAnyH_take (i := 6) (v := .int .i64 D) rfl (by kernel_rfl) (by kernel_rfl) (by kernel_rfl) (fun _ _ _ h => h) (Or.inl ⟨by rfl, fun w hc => ?_⟩) (unhide HS) ?_
  · clear hc; go_simp
  go_simp
  refine wpAnyH_take (i := 7) (v := .bool true) rfl (by kernel_rfl) (by kernel_rfl) (by kernel_rfl) (fun _ _ _ h => h) (Or.inl ⟨by rfl, fun w hc => ?_⟩) (unhide HS) ?_
  · clear hc; go_simp
  go_simp
  refine wpAnyH_take (i := 8) (v := .int .i64 D) rfl (by kernel_rfl) (by kernel_rfl) (by kernel_rfl) (fun _ _ _ h => h) (Or.inl ⟨by rfl, fun w hc => ?_⟩) (unhide HS) ?_
  · clear hc; go_simp
  go_simp
  refine wpAnyH_take (i := 9) (v := .bool true) rfl (by kernel_rfl) (by kernel_rfl) (by kernel_rfl) (fun _ _ _ h => h) (Or.inl ⟨by rfl, fun w hc => ?_⟩) (unhide HS) ?_
  · clear hc; go_simp
  go_simp
  refine wpAnyH_done (by kernel_rfl) ?_ _
  clear HS
  have NZ := hide (nz_any B g y t st X false w2 (unhide H2))
  go_wp2_with fail
  refine (unhide NZ).mono ?_
  rintro e w3 ⟨rfl, h3, f3⟩
  have H3 := hide h3
  have F3 := hide ((Fm.of (unhide B2)).trans f3)
  have R3 := hide (f3.row (unhide R2) (by have := unhide GL; omega) (fun e => by have := unhide YL _ e; omega))
  clear h3 f3 NZ H2 B2 R2
  have P := hide (put7_any B g _ (t.nz X false) st qr qa X _ (unhide H3) (unhide DK))
  rw [show (t.nz X false).d.ldB qr qa = true from unhide HQ] at P
  go_wp2_with (refine wpList_load_row rfl 97 _ rfl w.heap.size rfl 97 #[.int .i64 qr, .int .i64 qa] (0, 0) _ (unhide R3) Tryz.underlying97 rfl (by kernel_rfl) ?_)
  refine (unhide P).mono ?_
  rintro e w7 ⟨rfl, y7, h7, f7⟩
  have H7 := hide h7
  have F7 := hide ((unhide F3).trans f7)
  clear h7 f7 P
  go_wp2
  go_ret
  exact ⟨rfl, y7, fun _ => unhide H7, unhide F7⟩
set_option maxHeartbeats 8000000 in
theorem two_4 (B g : Nat) (y : Mv) (t : Ms) (st s qr qa : Int) (w : World) (h : Sm w B g y t st) (hk : Dk t.d) (hs : 0 ≤ s ∧ s ≤ 65535) (hq : t.d.ldB qr qa = true) : TwIs B g y t (t.two 4 s qr qa) st 4 s qr qa true w := by
  have HQ := hide hq
  obtain ⟨s0, s1⟩ := hs
  have GL := hide (show g < w.heap.size from row_lt h.row)
  have YL := hide (fun b (hb : y.at b) => (h.own.lo hb).2)
  have H0 := hide ((h.later (below_new w (Obj.cells #[.int .i64 qr, .int .i64 qa] 97))).later (below_drew (w := (w.alloc (Obj.cells #[.int .i64 qr, .int .i64 qa] 97)))))
  have R0 := hide (row_lat (heap_alloc_last w (Obj.cells #[.int .i64 qr, .int .i64 qa] 97)) (below_drew (w := (w.alloc (Obj.cells #[.int .i64 qr, .int .i64 qa] 97)))))
  have BB := hide ((below_new w (Obj.cells #[.int .i64 qr, .int .i64 qa] 97)).trans ((below_drew (w := (w.alloc (Obj.cells #[.int .i64 qr, .int .i64 qa] 97)))).mono (by simp)))
  have LD := hide (fun v (r : RdM v y t.d) => loadS_any y t.d qr qa v (h.small hk) r)
  rw [hq] at LD
  have DB := hk.ldb qr qa
  have DK := hide hk
  unfold TwIs Ms.two
  
  generalize t.d.ldV qr qa = D at LD DB ⊢
  clear h hk hq
  obtain ⟨d0, d1⟩ := DB
  obtain ⟨X, hX⟩ : ∃ q, bits .or .i64 D s = q := ⟨_, rfl⟩
  rw [hX]
  have HX := hX
  clear hX
  go_enter Tryz.func91, Tryz.ntmps91
  go_wp2_with fail
  refine wp_region_held_drew (S := fun v => v.heap[g]? = some (.cells y.cs 26 (0, 0)) ∧ v.heap[w.heap.size]? = some (.cells #[.int .i64 qr, .int .i64 qa] 97 (0, 0))) (by kernel_rfl) ⟨(unhide H0).row, unhide R0⟩ (fun hS => ?_)
  have HS := hide hS
  clear hS
  generalize (w.alloc (Obj.cells #[.int .i64 qr, .int .i64 qa] 97)).drew = wd at H0 R0 BB HS ⊢
  refine wpAnyH_take (i := 0) (v := .pointer (some ⟨g, 0, none⟩)) rfl (by kernel_rfl) (by kernel_rfl) (by kernel_rfl) (fun _ _ _ h => h) (Or.inl ⟨by rfl, fun w hc => ?_⟩) (unhide HS) ?_
  · clear hc; go_simp
  go_simp
  refine wpAnyH_take (i := 1) (v := .pointer (some ⟨g, 0, none⟩)) rfl (by kernel_rfl) (by kernel_rfl) (by kernel_rfl) (fun _ _ _ h => h) (Or.inl ⟨by rfl, fun w hc => ?_⟩) (unhide HS) ?_
  · clear hc; go_simp
  go_simp
  refine wpAnyH_take (i := 2) (v := .agg y.cs) rfl (by kernel_rfl) (by kernel_rfl) (by kernel_rfl) (fun _ _ _ h => h) (yields_load rfl 26 _ rfl g rfl 26 y.cs _ (fun w h => h.1) Tryz.underlying26 rfl (by kernel_rfl)) (unhide HS) ?_
  go_simp
  refine wpAnyH_take (i := 3) (v := .agg #[.int .i64 qr, .int .i64 qa]) rfl (by kernel_rfl) (by kernel_rfl) (by kernel_rfl) (fun _ _ _ h => h) (yields_load rfl 97 _ rfl w.heap.size rfl 97 #[.int .i64 qr, .int .i64 qa] _ (fun w h => h.2) Tryz.underlying97 rfl (by kernel_rfl)) (unhide HS) ?_
  go_simp
  refine wpAnyH_ready (rs := [4]) (by kernel_rfl) (by simp) ?_
  refine AllReadyH.cons rfl (fun K2 hK => ?_) (AllReadyH.nil)
  go_simp
  have P := hide (unhide LD wd (unhide H0).own.rd)
  refine (unhide P).mono ?_
  rintro e w2 ⟨rfl, hb⟩
  have H2 := hide ((unhide H0).later hb)
  have WD := hide (show w.heap.size < wd.heap.size from row_lt (unhide R0))
  have B2 := hide ((unhide BB).trans (hb.mono (by have := unhide WD; omega)))
  have R2 := hide (row_lat (unhide R0) hb)
  refine hK.out _ _ ⟨(unhide H2).row, unhide R2⟩ (fun hS => ?_)
  clear HS
  have HS := hide hS
  clear hS hK K2 hb P LD H0 R0 BB
  refine wpAnyH_take (i := 5) (v := .tuple #[.int .i64 D, .bool true]) rfl (by kernel_rfl) (by kernel_rfl) (by kernel_rfl) (fun _ _ _ h => h) (Or.inl ⟨by rfl, fun w hc => ?_⟩) (unhide HS) ?_
  · clear hc; go_simp
  go_simp
  refine wpAnyH_take (i := 6) (v := .int .i64 D) rfl (by kernel_rfl) (by kernel_rfl) (by kernel_rfl) (fun _ _ _ h => h) (Or.inl ⟨by rfl, fun w hc => ?_⟩) (unhide HS) ?_
  · clear hc; go_simp
  go_simp
  refine wpAnyH_take (i := 7) (v := .bool true) rfl (by kernel_rfl) (by kernel_rfl) (by kernel_rfl) (fun _ _ _ h => h) (Or.inl ⟨by rfl, fun w hc => ?_⟩) (unhide HS) ?_
  · clear hc; go_simp
  go_simp
  refine wpAnyH_take (i := 8) (v := .int .i64 D) rfl (by kernel_rfl) (by kernel_rfl) (by kernel_rfl) (fun _ _ _ h => h) (Or.inl ⟨by rfl, fun w hc => ?_⟩) (unhide HS) ?_
  · clear hc; go_simp
  go_simp
  refine wpAnyH_take (i := 9) (v := .bool true) rfl (by kernel_rfl) (by kernel_rfl) (by kernel_rfl) (fun _ _ _ h => h) (Or.inl ⟨by rfl, fun w hc => ?_⟩) (unhide HS) ?_
  · clear hc; go_simp
  go_simp
  refine wpAnyH_done (by kernel_rfl) ?_ _
  clear HS
  have NZ := hide (nz_any B g y t st X false w2 (unhide H2))
  go_wp2_with fail
  refine (unhide NZ).mono ?_
  rintro e w3 ⟨rfl, h3, f3⟩
  have H3 := hide h3
  have F3 := hide ((Fm.of (unhide B2)).trans f3)
  have R3 := hide (f3.row (unhide R2) (by have := unhide GL; omega) (fun e => by have := unhide YL _ e; omega))
  clear h3 f3 NZ H2 B2 R2
  have P := hide (put7_any B g _ (t.nz X false) st qr qa X _ (unhide H3) (unhide DK))
  rw [show (t.nz X false).d.ldB qr qa = true from unhide HQ] at P
  go_wp2_with (refine wpList_load_row rfl 97 _ rfl w.heap.size rfl 97 #[.int .i64 qr, .int .i64 qa] (0, 0) _ (unhide R3) Tryz.underlying97 rfl (by kernel_rfl) ?_)
  refine (unhide P).mono ?_
  rintro e w7 ⟨rfl, y7, h7, f7⟩
  have H7 := hide h7
  have F7 := hide ((unhide F3).trans f7)
  clear h7 f7 P
  go_wp2
  go_ret
  exact ⟨rfl, y7, fun _ => unhide H7, unhide F7⟩
set_option maxHeartbeats 8000000 in
theorem two_5 (B g : Nat) (y : Mv) (t : Ms) (st s qr qa : Int) (w : World) (h : Sm w B g y t st) (hk : Dk t.d) (hs : 0 ≤ s ∧ s ≤ 65535) (hq : t.d.ldB qr qa = true) : TwIs B g y t (t.two 5 s qr qa) st 5 s qr qa true w := by
  have HQ := hide hq
  obtain ⟨s0, s1⟩ := hs
  have GL := hide (show g < w.heap.size from row_lt h.row)
  have YL := hide (fun b (hb : y.at b) => (h.own.lo hb).2)
  have H0 := hide ((h.later (below_new w (Obj.cells #[.int .i64 qr, .int .i64 qa] 97))).later (below_drew (w := (w.alloc (Obj.cells #[.int .i64 qr, .int .i64 qa] 97)))))
  have R0 := hide (row_lat (heap_alloc_last w (Obj.cells #[.int .i64 qr, .int .i64 qa] 97)) (below_drew (w := (w.alloc (Obj.cells #[.int .i64 qr, .int .i64 qa] 97)))))
  have BB := hide ((below_new w (Obj.cells #[.int .i64 qr, .int .i64 qa] 97)).trans ((below_drew (w := (w.alloc (Obj.cells #[.int .i64 qr, .int .i64 qa] 97)))).mono (by simp)))
  have LD := hide (fun v (r : RdM v y t.d) => loadS_any y t.d qr qa v (h.small hk) r)
  rw [hq] at LD
  have DB := hk.ldb qr qa
  have DK := hide hk
  unfold TwIs Ms.two
  
  generalize t.d.ldV qr qa = D at LD DB ⊢
  clear h hk hq
  obtain ⟨d0, d1⟩ := DB
  have WR := hide (fun v => wrapS_any (D + s) v)
  generalize (D + s) % 65536 = r at WR ⊢
  have SG1 := hide (fun v => sign_any s v)
  generalize sgB s = b1 at SG1 ⊢
  have SG2 := hide (fun v => sign_any D v)
  generalize sgB D = b2 at SG2 ⊢
  have SG3 := hide (fun v => sign_any r v)
  generalize sgB r = b3 at SG3 ⊢
  go_enter Tryz.func91, Tryz.ntmps91
  go_wp2_with fail
  refine wp_region_held_drew (S := fun v => v.heap[g]? = some (.cells y.cs 26 (0, 0)) ∧ v.heap[w.heap.size]? = some (.cells #[.int .i64 qr, .int .i64 qa] 97 (0, 0))) (by kernel_rfl) ⟨(unhide H0).row, unhide R0⟩ (fun hS => ?_)
  have HS := hide hS
  clear hS
  generalize (w.alloc (Obj.cells #[.int .i64 qr, .int .i64 qa] 97)).drew = wd at H0 R0 BB HS ⊢
  refine wpAnyH_take (i := 0) (v := .pointer (some ⟨g, 0, none⟩)) rfl (by kernel_rfl) (by kernel_rfl) (by kernel_rfl) (fun _ _ _ h => h) (Or.inl ⟨by rfl, fun w hc => ?_⟩) (unhide HS) ?_
  · clear hc; go_simp
  go_simp
  refine wpAnyH_take (i := 1) (v := .pointer (some ⟨g, 0, none⟩)) rfl (by kernel_rfl) (by kernel_rfl) (by kernel_rfl) (fun _ _ _ h => h) (Or.inl ⟨by rfl, fun w hc => ?_⟩) (unhide HS) ?_
  · clear hc; go_simp
  go_simp
  refine wpAnyH_take (i := 2) (v := .agg y.cs) rfl (by kernel_rfl) (by kernel_rfl) (by kernel_rfl) (fun _ _ _ h => h) (yields_load rfl 26 _ rfl g rfl 26 y.cs _ (fun w h => h.1) Tryz.underlying26 rfl (by kernel_rfl)) (unhide HS) ?_
  go_simp
  refine wpAnyH_take (i := 3) (v := .agg #[.int .i64 qr, .int .i64 qa]) rfl (by kernel_rfl) (by kernel_rfl) (by kernel_rfl) (fun _ _ _ h => h) (yields_load rfl 97 _ rfl w.heap.size rfl 97 #[.int .i64 qr, .int .i64 qa] _ (fun w h => h.2) Tryz.underlying97 rfl (by kernel_rfl)) (unhide HS) ?_
  go_simp
  refine wpAnyH_ready (rs := [4]) (by kernel_rfl) (by simp) ?_
  refine AllReadyH.cons rfl (fun K2 hK => ?_) (AllReadyH.nil)
  go_simp
  have P := hide (unhide LD wd (unhide H0).own.rd)
  refine (unhide P).mono ?_
  rintro e w2 ⟨rfl, hb⟩
  have H2 := hide ((unhide H0).later hb)
  have WD := hide (show w.heap.size < wd.heap.size from row_lt (unhide R0))
  have B2 := hide ((unhide BB).trans (hb.mono (by have := unhide WD; omega)))
  have R2 := hide (row_lat (unhide R0) hb)
  refine hK.out _ _ ⟨(unhide H2).row, unhide R2⟩ (fun hS => ?_)
  clear HS
  have HS := hide hS
  clear hS hK K2 hb P LD H0 R0 BB
  refine wpAnyH_take (i := 5) (v := .tuple #[.int .i64 D, .bool true]) rfl (by kernel_rfl) (by kernel_rfl) (by kernel_rfl) (fun _ _ _ h => h) (Or.inl ⟨by rfl, fun w hc => ?_⟩) (unhide HS) ?_
  · clear hc; go_simp
  go_simp
  refine wpAnyH_take (i := 6) (v := .int .i64 D) rfl (by kernel_rfl) (by kernel_rfl) (by kernel_rfl) (fun _ _ _ h => h) (Or.inl ⟨by rfl, fun w hc => ?_⟩) (unhide HS) ?_
  · clear hc; go_simp
  go_simp
  refine wpAnyH_take (i := 7) (v := .bool true) rfl (by kernel_rfl) (by kernel_rfl) (by kernel_rfl) (fun _ _ _ h => h) (Or.inl ⟨by rfl, fun w hc => ?_⟩) (unhide HS) ?_
  · clear hc; go_simp
  go_simp
  refine wpAnyH_take (i := 8) (v := .int .i64 D) rfl (by kernel_rfl) (by kernel_rfl) (by kernel_rfl) (fun _ _ _ h => h) (Or.inl ⟨by rfl, fun w hc => ?_⟩) (unhide HS) ?_
  · clear hc; go_simp
  go_simp
  refine wpAnyH_take (i := 9) (v := .bool true) rfl (by kernel_rfl) (by kernel_rfl) (by kernel_rfl) (fun _ _ _ h => h) (Or.inl ⟨by rfl, fun w hc => ?_⟩) (unhide HS) ?_
  · clear hc; go_simp
  go_simp
  refine wpAnyH_done (by kernel_rfl) ?_ _
  clear HS
  go_wp2_with fail
  refine (unhide WR _).mono ?_
  rintro e w9 ⟨rfl, hw9⟩
  rw [hw9]
  clear hw9 w9
  go_wp2_with fail
  refine (unhide SG1 _).mono ?_
  rintro e w9 ⟨rfl, hw9⟩
  rw [hw9]
  clear hw9 w9
  go_wp2_with fail
  refine (unhide SG2 _).mono ?_
  rintro e w9 ⟨rfl, hw9⟩
  rw [hw9]
  clear hw9 w9
  cases b1 <;> cases b2
  · skip
    go_wp2_with fail
    refine (unhide SG3 _).mono ?_
    rintro e w9 ⟨rfl, hw9⟩
    rw [hw9]
    clear hw9 w9
    go_wp2_with fail
    refine (unhide SG2 _).mono ?_
    rintro e w9 ⟨rfl, hw9⟩
    rw [hw9]
    clear hw9 w9
    cases b3
    · skip
      have NZ := hide (nz_any B g y t st r (((false : Bool) == (false : Bool)) && ((false : Bool) != (false : Bool))) w2 (unhide H2))
      go_wp2_with fail
      refine (unhide NZ).mono ?_
      rintro e w3 ⟨rfl, h3, f3⟩
      have H3 := hide h3
      have F3 := hide ((Fm.of (unhide B2)).trans f3)
      have R3 := hide (f3.row (unhide R2) (by have := unhide GL; omega) (fun e => by have := unhide YL _ e; omega))
      clear h3 f3 NZ H2 B2 R2
      have c5 := row_c (unhide H3).row
      have f5 := row_fz (unhide H3).row 5
      obtain ⟨h4, f4⟩ := (unhide H3).setC (decide (65535 < D + s))
      have H4 := hide h4
      have F4 := hide ((unhide F3).trans f4)
      have R4 := hide (f4.row (unhide R3) (by have := unhide GL; omega) (fun e => by have := unhide YL _ e; omega))
      clear h4 f4
      have P := hide (put7_any B g _ ((t.nz r (((false : Bool) == (false : Bool)) && ((false : Bool) != (false : Bool)))).cs (decide (65535 < D + s))) st qr qa r _ (unhide H4) (unhide DK))
      rw [show ((t.nz r (((false : Bool) == (false : Bool)) && ((false : Bool) != (false : Bool)))).cs (decide (65535 < D + s))).d.ldB qr qa = true from unhide HQ] at P
      go_wp2_with (refine wpList_load_row rfl 97 _ rfl w.heap.size rfl 97 #[.int .i64 qr, .int .i64 qa] (0, 0) _ (unhide R4) Tryz.underlying97 rfl (by kernel_rfl) ?_)
      refine (unhide P).mono ?_
      rintro e w7 ⟨rfl, y7, h7, f7⟩
      have H7 := hide h7
      have F7 := hide ((unhide F4).trans f7)
      clear h7 f7 P
      go_wp2
      go_ret
      exact ⟨rfl, y7, fun _ => unhide H7, unhide F7⟩
    · skip
      have NZ := hide (nz_any B g y t st r (((false : Bool) == (false : Bool)) && ((true : Bool) != (false : Bool))) w2 (unhide H2))
      go_wp2_with fail
      refine (unhide NZ).mono ?_
      rintro e w3 ⟨rfl, h3, f3⟩
      have H3 := hide h3
      have F3 := hide ((Fm.of (unhide B2)).trans f3)
      have R3 := hide (f3.row (unhide R2) (by have := unhide GL; omega) (fun e => by have := unhide YL _ e; omega))
      clear h3 f3 NZ H2 B2 R2
      have c5 := row_c (unhide H3).row
      have f5 := row_fz (unhide H3).row 5
      obtain ⟨h4, f4⟩ := (unhide H3).setC (decide (65535 < D + s))
      have H4 := hide h4
      have F4 := hide ((unhide F3).trans f4)
      have R4 := hide (f4.row (unhide R3) (by have := unhide GL; omega) (fun e => by have := unhide YL _ e; omega))
      clear h4 f4
      have P := hide (put7_any B g _ ((t.nz r (((false : Bool) == (false : Bool)) && ((true : Bool) != (false : Bool)))).cs (decide (65535 < D + s))) st qr qa r _ (unhide H4) (unhide DK))
      rw [show ((t.nz r (((false : Bool) == (false : Bool)) && ((true : Bool) != (false : Bool)))).cs (decide (65535 < D + s))).d.ldB qr qa = true from unhide HQ] at P
      go_wp2_with (refine wpList_load_row rfl 97 _ rfl w.heap.size rfl 97 #[.int .i64 qr, .int .i64 qa] (0, 0) _ (unhide R4) Tryz.underlying97 rfl (by kernel_rfl) ?_)
      refine (unhide P).mono ?_
      rintro e w7 ⟨rfl, y7, h7, f7⟩
      have H7 := hide h7
      have F7 := hide ((unhide F4).trans f7)
      clear h7 f7 P
      go_wp2
      go_ret
      exact ⟨rfl, y7, fun _ => unhide H7, unhide F7⟩
  · skip
    have NZ := hide (nz_any B g y t st r (((false : Bool) == (true : Bool)) && ((b3 : Bool) != (true : Bool))) w2 (unhide H2))
    go_wp2_with fail
    refine (unhide NZ).mono ?_
    rintro e w3 ⟨rfl, h3, f3⟩
    have H3 := hide h3
    have F3 := hide ((Fm.of (unhide B2)).trans f3)
    have R3 := hide (f3.row (unhide R2) (by have := unhide GL; omega) (fun e => by have := unhide YL _ e; omega))
    clear h3 f3 NZ H2 B2 R2
    have c5 := row_c (unhide H3).row
    have f5 := row_fz (unhide H3).row 5
    obtain ⟨h4, f4⟩ := (unhide H3).setC (decide (65535 < D + s))
    have H4 := hide h4
    have F4 := hide ((unhide F3).trans f4)
    have R4 := hide (f4.row (unhide R3) (by have := unhide GL; omega) (fun e => by have := unhide YL _ e; omega))
    clear h4 f4
    have P := hide (put7_any B g _ ((t.nz r (((false : Bool) == (true : Bool)) && ((b3 : Bool) != (true : Bool)))).cs (decide (65535 < D + s))) st qr qa r _ (unhide H4) (unhide DK))
    rw [show ((t.nz r (((false : Bool) == (true : Bool)) && ((b3 : Bool) != (true : Bool)))).cs (decide (65535 < D + s))).d.ldB qr qa = true from unhide HQ] at P
    go_wp2_with (refine wpList_load_row rfl 97 _ rfl w.heap.size rfl 97 #[.int .i64 qr, .int .i64 qa] (0, 0) _ (unhide R4) Tryz.underlying97 rfl (by kernel_rfl) ?_)
    refine (unhide P).mono ?_
    rintro e w7 ⟨rfl, y7, h7, f7⟩
    have H7 := hide h7
    have F7 := hide ((unhide F4).trans f7)
    clear h7 f7 P
    go_wp2
    go_ret
    exact ⟨rfl, y7, fun _ => unhide H7, unhide F7⟩
  · skip
    have NZ := hide (nz_any B g y t st r (((true : Bool) == (false : Bool)) && ((b3 : Bool) != (false : Bool))) w2 (unhide H2))
    go_wp2_with fail
    refine (unhide NZ).mono ?_
    rintro e w3 ⟨rfl, h3, f3⟩
    have H3 := hide h3
    have F3 := hide ((Fm.of (unhide B2)).trans f3)
    have R3 := hide (f3.row (unhide R2) (by have := unhide GL; omega) (fun e => by have := unhide YL _ e; omega))
    clear h3 f3 NZ H2 B2 R2
    have c5 := row_c (unhide H3).row
    have f5 := row_fz (unhide H3).row 5
    obtain ⟨h4, f4⟩ := (unhide H3).setC (decide (65535 < D + s))
    have H4 := hide h4
    have F4 := hide ((unhide F3).trans f4)
    have R4 := hide (f4.row (unhide R3) (by have := unhide GL; omega) (fun e => by have := unhide YL _ e; omega))
    clear h4 f4
    have P := hide (put7_any B g _ ((t.nz r (((true : Bool) == (false : Bool)) && ((b3 : Bool) != (false : Bool)))).cs (decide (65535 < D + s))) st qr qa r _ (unhide H4) (unhide DK))
    rw [show ((t.nz r (((true : Bool) == (false : Bool)) && ((b3 : Bool) != (false : Bool)))).cs (decide (65535 < D + s))).d.ldB qr qa = true from unhide HQ] at P
    go_wp2_with (refine wpList_load_row rfl 97 _ rfl w.heap.size rfl 97 #[.int .i64 qr, .int .i64 qa] (0, 0) _ (unhide R4) Tryz.underlying97 rfl (by kernel_rfl) ?_)
    refine (unhide P).mono ?_
    rintro e w7 ⟨rfl, y7, h7, f7⟩
    have H7 := hide h7
    have F7 := hide ((unhide F4).trans f7)
    clear h7 f7 P
    go_wp2
    go_ret
    exact ⟨rfl, y7, fun _ => unhide H7, unhide F7⟩
  · skip
    go_wp2_with fail
    refine (unhide SG3 _).mono ?_
    rintro e w9 ⟨rfl, hw9⟩
    rw [hw9]
    clear hw9 w9
    go_wp2_with fail
    refine (unhide SG2 _).mono ?_
    rintro e w9 ⟨rfl, hw9⟩
    rw [hw9]
    clear hw9 w9
    cases b3
    · skip
      have NZ := hide (nz_any B g y t st r (((true : Bool) == (true : Bool)) && ((false : Bool) != (true : Bool))) w2 (unhide H2))
      go_wp2_with fail
      refine (unhide NZ).mono ?_
      rintro e w3 ⟨rfl, h3, f3⟩
      have H3 := hide h3
      have F3 := hide ((Fm.of (unhide B2)).trans f3)
      have R3 := hide (f3.row (unhide R2) (by have := unhide GL; omega) (fun e => by have := unhide YL _ e; omega))
      clear h3 f3 NZ H2 B2 R2
      have c5 := row_c (unhide H3).row
      have f5 := row_fz (unhide H3).row 5
      obtain ⟨h4, f4⟩ := (unhide H3).setC (decide (65535 < D + s))
      have H4 := hide h4
      have F4 := hide ((unhide F3).trans f4)
      have R4 := hide (f4.row (unhide R3) (by have := unhide GL; omega) (fun e => by have := unhide YL _ e; omega))
      clear h4 f4
      have P := hide (put7_any B g _ ((t.nz r (((true : Bool) == (true : Bool)) && ((false : Bool) != (true : Bool)))).cs (decide (65535 < D + s))) st qr qa r _ (unhide H4) (unhide DK))
      rw [show ((t.nz r (((true : Bool) == (true : Bool)) && ((false : Bool) != (true : Bool)))).cs (decide (65535 < D + s))).d.ldB qr qa = true from unhide HQ] at P
      go_wp2_with (refine wpList_load_row rfl 97 _ rfl w.heap.size rfl 97 #[.int .i64 qr, .int .i64 qa] (0, 0) _ (unhide R4) Tryz.underlying97 rfl (by kernel_rfl) ?_)
      refine (unhide P).mono ?_
      rintro e w7 ⟨rfl, y7, h7, f7⟩
      have H7 := hide h7
      have F7 := hide ((unhide F4).trans f7)
      clear h7 f7 P
      go_wp2
      go_ret
      exact ⟨rfl, y7, fun _ => unhide H7, unhide F7⟩
    · skip
      have NZ := hide (nz_any B g y t st r (((true : Bool) == (true : Bool)) && ((true : Bool) != (true : Bool))) w2 (unhide H2))
      go_wp2_with fail
      refine (unhide NZ).mono ?_
      rintro e w3 ⟨rfl, h3, f3⟩
      have H3 := hide h3
      have F3 := hide ((Fm.of (unhide B2)).trans f3)
      have R3 := hide (f3.row (unhide R2) (by have := unhide GL; omega) (fun e => by have := unhide YL _ e; omega))
      clear h3 f3 NZ H2 B2 R2
      have c5 := row_c (unhide H3).row
      have f5 := row_fz (unhide H3).row 5
      obtain ⟨h4, f4⟩ := (unhide H3).setC (decide (65535 < D + s))
      have H4 := hide h4
      have F4 := hide ((unhide F3).trans f4)
      have R4 := hide (f4.row (unhide R3) (by have := unhide GL; omega) (fun e => by have := unhide YL _ e; omega))
      clear h4 f4
      have P := hide (put7_any B g _ ((t.nz r (((true : Bool) == (true : Bool)) && ((true : Bool) != (true : Bool)))).cs (decide (65535 < D + s))) st qr qa r _ (unhide H4) (unhide DK))
      rw [show ((t.nz r (((true : Bool) == (true : Bool)) && ((true : Bool) != (true : Bool)))).cs (decide (65535 < D + s))).d.ldB qr qa = true from unhide HQ] at P
      go_wp2_with (refine wpList_load_row rfl 97 _ rfl w.heap.size rfl 97 #[.int .i64 qr, .int .i64 qa] (0, 0) _ (unhide R4) Tryz.underlying97 rfl (by kernel_rfl) ?_)
      refine (unhide P).mono ?_
      rintro e w7 ⟨rfl, y7, h7, f7⟩
      have H7 := hide h7
      have F7 := hide ((unhide F4).trans f7)
      clear h7 f7 P
      go_wp2
      go_ret
      exact ⟨rfl, y7, fun _ => unhide H7, unhide F7⟩
set_option maxHeartbeats 8000000 in
theorem two_6 (B g : Nat) (y : Mv) (t : Ms) (st s qr qa : Int) (w : World) (h : Sm w B g y t st) (hk : Dk t.d) (hs : 0 ≤ s ∧ s ≤ 65535) (hq : t.d.ldB qr qa = true) : TwIs B g y t (t.two 6 s qr qa) st 6 s qr qa true w := by
  have HQ := hide hq
  obtain ⟨s0, s1⟩ := hs
  have GL := hide (show g < w.heap.size from row_lt h.row)
  have YL := hide (fun b (hb : y.at b) => (h.own.lo hb).2)
  have H0 := hide ((h.later (below_new w (Obj.cells #[.int .i64 qr, .int .i64 qa] 97))).later (below_drew (w := (w.alloc (Obj.cells #[.int .i64 qr, .int .i64 qa] 97)))))
  have R0 := hide (row_lat (heap_alloc_last w (Obj.cells #[.int .i64 qr, .int .i64 qa] 97)) (below_drew (w := (w.alloc (Obj.cells #[.int .i64 qr, .int .i64 qa] 97)))))
  have BB := hide ((below_new w (Obj.cells #[.int .i64 qr, .int .i64 qa] 97)).trans ((below_drew (w := (w.alloc (Obj.cells #[.int .i64 qr, .int .i64 qa] 97)))).mono (by simp)))
  have LD := hide (fun v (r : RdM v y t.d) => loadS_any y t.d qr qa v (h.small hk) r)
  rw [hq] at LD
  have DB := hk.ldb qr qa
  have DK := hide hk
  unfold TwIs Ms.two
  
  generalize t.d.ldV qr qa = D at LD DB ⊢
  clear h hk hq
  obtain ⟨d0, d1⟩ := DB
  have WR := hide (fun v => wrapS_any (D - s) v)
  generalize (D - s) % 65536 = r at WR ⊢
  have SG1 := hide (fun v => sign_any s v)
  generalize sgB s = b1 at SG1 ⊢
  have SG2 := hide (fun v => sign_any D v)
  generalize sgB D = b2 at SG2 ⊢
  have SG3 := hide (fun v => sign_any r v)
  generalize sgB r = b3 at SG3 ⊢
  go_enter Tryz.func91, Tryz.ntmps91
  go_wp2_with fail
  refine wp_region_held_drew (S := fun v => v.heap[g]? = some (.cells y.cs 26 (0, 0)) ∧ v.heap[w.heap.size]? = some (.cells #[.int .i64 qr, .int .i64 qa] 97 (0, 0))) (by kernel_rfl) ⟨(unhide H0).row, unhide R0⟩ (fun hS => ?_)
  have HS := hide hS
  clear hS
  generalize (w.alloc (Obj.cells #[.int .i64 qr, .int .i64 qa] 97)).drew = wd at H0 R0 BB HS ⊢
  refine wpAnyH_take (i := 0) (v := .pointer (some ⟨g, 0, none⟩)) rfl (by kernel_rfl) (by kernel_rfl) (by kernel_rfl) (fun _ _ _ h => h) (Or.inl ⟨by rfl, fun w hc => ?_⟩) (unhide HS) ?_
  · clear hc; go_simp
  go_simp
  refine wpAnyH_take (i := 1) (v := .pointer (some ⟨g, 0, none⟩)) rfl (by kernel_rfl) (by kernel_rfl) (by kernel_rfl) (fun _ _ _ h => h) (Or.inl ⟨by rfl, fun w hc => ?_⟩) (unhide HS) ?_
  · clear hc; go_simp
  go_simp
  refine wpAnyH_take (i := 2) (v := .agg y.cs) rfl (by kernel_rfl) (by kernel_rfl) (by kernel_rfl) (fun _ _ _ h => h) (yields_load rfl 26 _ rfl g rfl 26 y.cs _ (fun w h => h.1) Tryz.underlying26 rfl (by kernel_rfl)) (unhide HS) ?_
  go_simp
  refine wpAnyH_take (i := 3) (v := .agg #[.int .i64 qr, .int .i64 qa]) rfl (by kernel_rfl) (by kernel_rfl) (by kernel_rfl) (fun _ _ _ h => h) (yields_load rfl 97 _ rfl w.heap.size rfl 97 #[.int .i64 qr, .int .i64 qa] _ (fun w h => h.2) Tryz.underlying97 rfl (by kernel_rfl)) (unhide HS) ?_
  go_simp
  refine wpAnyH_ready (rs := [4]) (by kernel_rfl) (by simp) ?_
  refine AllReadyH.cons rfl (fun K2 hK => ?_) (AllReadyH.nil)
  go_simp
  have P := hide (unhide LD wd (unhide H0).own.rd)
  refine (unhide P).mono ?_
  rintro e w2 ⟨rfl, hb⟩
  have H2 := hide ((unhide H0).later hb)
  have WD := hide (show w.heap.size < wd.heap.size from row_lt (unhide R0))
  have B2 := hide ((unhide BB).trans (hb.mono (by have := unhide WD; omega)))
  have R2 := hide (row_lat (unhide R0) hb)
  refine hK.out _ _ ⟨(unhide H2).row, unhide R2⟩ (fun hS => ?_)
  clear HS
  have HS := hide hS
  clear hS hK K2 hb P LD H0 R0 BB
  refine wpAnyH_take (i := 5) (v := .tuple #[.int .i64 D, .bool true]) rfl (by kernel_rfl) (by kernel_rfl) (by kernel_rfl) (fun _ _ _ h => h) (Or.inl ⟨by rfl, fun w hc => ?_⟩) (unhide HS) ?_
  · clear hc; go_simp
  go_simp
  refine wpAnyH_take (i := 6) (v := .int .i64 D) rfl (by kernel_rfl) (by kernel_rfl) (by kernel_rfl) (fun _ _ _ h => h) (Or.inl ⟨by rfl, fun w hc => ?_⟩) (unhide HS) ?_
  · clear hc; go_simp
  go_simp
  refine wpAnyH_take (i := 7) (v := .bool true) rfl (by kernel_rfl) (by kernel_rfl) (by kernel_rfl) (fun _ _ _ h => h) (Or.inl ⟨by rfl, fun w hc => ?_⟩) (unhide HS) ?_
  · clear hc; go_simp
  go_simp
  refine wpAnyH_take (i := 8) (v := .int .i64 D) rfl (by kernel_rfl) (by kernel_rfl) (by kernel_rfl) (fun _ _ _ h => h) (Or.inl ⟨by rfl, fun w hc => ?_⟩) (unhide HS) ?_
  · clear hc; go_simp
  go_simp
  refine wpAnyH_take (i := 9) (v := .bool true) rfl (by kernel_rfl) (by kernel_rfl) (by kernel_rfl) (fun _ _ _ h => h) (Or.inl ⟨by rfl, fun w hc => ?_⟩) (unhide HS) ?_
  · clear hc; go_simp
  go_simp
  refine wpAnyH_done (by kernel_rfl) ?_ _
  clear HS
  go_wp2_with fail
  refine (unhide WR _).mono ?_
  rintro e w9 ⟨rfl, hw9⟩
  rw [hw9]
  clear hw9 w9
  go_wp2_with fail
  refine (unhide SG1 _).mono ?_
  rintro e w9 ⟨rfl, hw9⟩
  rw [hw9]
  clear hw9 w9
  go_wp2_with fail
  refine (unhide SG2 _).mono ?_
  rintro e w9 ⟨rfl, hw9⟩
  rw [hw9]
  clear hw9 w9
  cases b1 <;> cases b2
  · skip
    have NZ := hide (nz_any B g y t st r (((false : Bool) != (false : Bool)) && ((b3 : Bool) == (false : Bool))) w2 (unhide H2))
    go_wp2_with fail
    refine (unhide NZ).mono ?_
    rintro e w3 ⟨rfl, h3, f3⟩
    have H3 := hide h3
    have F3 := hide ((Fm.of (unhide B2)).trans f3)
    have R3 := hide (f3.row (unhide R2) (by have := unhide GL; omega) (fun e => by have := unhide YL _ e; omega))
    clear h3 f3 NZ H2 B2 R2
    have c5 := row_c (unhide H3).row
    have f5 := row_fz (unhide H3).row 5
    obtain ⟨h4, f4⟩ := (unhide H3).setC (decide (D < s))
    have H4 := hide h4
    have F4 := hide ((unhide F3).trans f4)
    have R4 := hide (f4.row (unhide R3) (by have := unhide GL; omega) (fun e => by have := unhide YL _ e; omega))
    clear h4 f4
    have P := hide (put7_any B g _ ((t.nz r (((false : Bool) != (false : Bool)) && ((b3 : Bool) == (false : Bool)))).cs (decide (D < s))) st qr qa r _ (unhide H4) (unhide DK))
    rw [show ((t.nz r (((false : Bool) != (false : Bool)) && ((b3 : Bool) == (false : Bool)))).cs (decide (D < s))).d.ldB qr qa = true from unhide HQ] at P
    go_wp2_with (refine wpList_load_row rfl 97 _ rfl w.heap.size rfl 97 #[.int .i64 qr, .int .i64 qa] (0, 0) _ (unhide R4) Tryz.underlying97 rfl (by kernel_rfl) ?_)
    refine (unhide P).mono ?_
    rintro e w7 ⟨rfl, y7, h7, f7⟩
    have H7 := hide h7
    have F7 := hide ((unhide F4).trans f7)
    clear h7 f7 P
    go_wp2
    go_ret
    exact ⟨rfl, y7, fun _ => unhide H7, unhide F7⟩
  · skip
    go_wp2_with fail
    refine (unhide SG3 _).mono ?_
    rintro e w9 ⟨rfl, hw9⟩
    rw [hw9]
    clear hw9 w9
    go_wp2_with fail
    refine (unhide SG1 _).mono ?_
    rintro e w9 ⟨rfl, hw9⟩
    rw [hw9]
    clear hw9 w9
    cases b3
    · skip
      have NZ := hide (nz_any B g y t st r (((false : Bool) != (true : Bool)) && ((false : Bool) == (false : Bool))) w2 (unhide H2))
      go_wp2_with fail
      refine (unhide NZ).mono ?_
      rintro e w3 ⟨rfl, h3, f3⟩
      have H3 := hide h3
      have F3 := hide ((Fm.of (unhide B2)).trans f3)
      have R3 := hide (f3.row (unhide R2) (by have := unhide GL; omega) (fun e => by have := unhide YL _ e; omega))
      clear h3 f3 NZ H2 B2 R2
      have c5 := row_c (unhide H3).row
      have f5 := row_fz (unhide H3).row 5
      obtain ⟨h4, f4⟩ := (unhide H3).setC (decide (D < s))
      have H4 := hide h4
      have F4 := hide ((unhide F3).trans f4)
      have R4 := hide (f4.row (unhide R3) (by have := unhide GL; omega) (fun e => by have := unhide YL _ e; omega))
      clear h4 f4
      have P := hide (put7_any B g _ ((t.nz r (((false : Bool) != (true : Bool)) && ((false : Bool) == (false : Bool)))).cs (decide (D < s))) st qr qa r _ (unhide H4) (unhide DK))
      rw [show ((t.nz r (((false : Bool) != (true : Bool)) && ((false : Bool) == (false : Bool)))).cs (decide (D < s))).d.ldB qr qa = true from unhide HQ] at P
      go_wp2_with (refine wpList_load_row rfl 97 _ rfl w.heap.size rfl 97 #[.int .i64 qr, .int .i64 qa] (0, 0) _ (unhide R4) Tryz.underlying97 rfl (by kernel_rfl) ?_)
      refine (unhide P).mono ?_
      rintro e w7 ⟨rfl, y7, h7, f7⟩
      have H7 := hide h7
      have F7 := hide ((unhide F4).trans f7)
      clear h7 f7 P
      go_wp2
      go_ret
      exact ⟨rfl, y7, fun _ => unhide H7, unhide F7⟩
    · skip
      have NZ := hide (nz_any B g y t st r (((false : Bool) != (true : Bool)) && ((true : Bool) == (false : Bool))) w2 (unhide H2))
      go_wp2_with fail
      refine (unhide NZ).mono ?_
      rintro e w3 ⟨rfl, h3, f3⟩
      have H3 := hide h3
      have F3 := hide ((Fm.of (unhide B2)).trans f3)
      have R3 := hide (f3.row (unhide R2) (by have := unhide GL; omega) (fun e => by have := unhide YL _ e; omega))
      clear h3 f3 NZ H2 B2 R2
      have c5 := row_c (unhide H3).row
      have f5 := row_fz (unhide H3).row 5
      obtain ⟨h4, f4⟩ := (unhide H3).setC (decide (D < s))
      have H4 := hide h4
      have F4 := hide ((unhide F3).trans f4)
      have R4 := hide (f4.row (unhide R3) (by have := unhide GL; omega) (fun e => by have := unhide YL _ e; omega))
      clear h4 f4
      have P := hide (put7_any B g _ ((t.nz r (((false : Bool) != (true : Bool)) && ((true : Bool) == (false : Bool)))).cs (decide (D < s))) st qr qa r _ (unhide H4) (unhide DK))
      rw [show ((t.nz r (((false : Bool) != (true : Bool)) && ((true : Bool) == (false : Bool)))).cs (decide (D < s))).d.ldB qr qa = true from unhide HQ] at P
      go_wp2_with (refine wpList_load_row rfl 97 _ rfl w.heap.size rfl 97 #[.int .i64 qr, .int .i64 qa] (0, 0) _ (unhide R4) Tryz.underlying97 rfl (by kernel_rfl) ?_)
      refine (unhide P).mono ?_
      rintro e w7 ⟨rfl, y7, h7, f7⟩
      have H7 := hide h7
      have F7 := hide ((unhide F4).trans f7)
      clear h7 f7 P
      go_wp2
      go_ret
      exact ⟨rfl, y7, fun _ => unhide H7, unhide F7⟩
  · skip
    go_wp2_with fail
    refine (unhide SG3 _).mono ?_
    rintro e w9 ⟨rfl, hw9⟩
    rw [hw9]
    clear hw9 w9
    go_wp2_with fail
    refine (unhide SG1 _).mono ?_
    rintro e w9 ⟨rfl, hw9⟩
    rw [hw9]
    clear hw9 w9
    cases b3
    · skip
      have NZ := hide (nz_any B g y t st r (((true : Bool) != (false : Bool)) && ((false : Bool) == (true : Bool))) w2 (unhide H2))
      go_wp2_with fail
      refine (unhide NZ).mono ?_
      rintro e w3 ⟨rfl, h3, f3⟩
      have H3 := hide h3
      have F3 := hide ((Fm.of (unhide B2)).trans f3)
      have R3 := hide (f3.row (unhide R2) (by have := unhide GL; omega) (fun e => by have := unhide YL _ e; omega))
      clear h3 f3 NZ H2 B2 R2
      have c5 := row_c (unhide H3).row
      have f5 := row_fz (unhide H3).row 5
      obtain ⟨h4, f4⟩ := (unhide H3).setC (decide (D < s))
      have H4 := hide h4
      have F4 := hide ((unhide F3).trans f4)
      have R4 := hide (f4.row (unhide R3) (by have := unhide GL; omega) (fun e => by have := unhide YL _ e; omega))
      clear h4 f4
      have P := hide (put7_any B g _ ((t.nz r (((true : Bool) != (false : Bool)) && ((false : Bool) == (true : Bool)))).cs (decide (D < s))) st qr qa r _ (unhide H4) (unhide DK))
      rw [show ((t.nz r (((true : Bool) != (false : Bool)) && ((false : Bool) == (true : Bool)))).cs (decide (D < s))).d.ldB qr qa = true from unhide HQ] at P
      go_wp2_with (refine wpList_load_row rfl 97 _ rfl w.heap.size rfl 97 #[.int .i64 qr, .int .i64 qa] (0, 0) _ (unhide R4) Tryz.underlying97 rfl (by kernel_rfl) ?_)
      refine (unhide P).mono ?_
      rintro e w7 ⟨rfl, y7, h7, f7⟩
      have H7 := hide h7
      have F7 := hide ((unhide F4).trans f7)
      clear h7 f7 P
      go_wp2
      go_ret
      exact ⟨rfl, y7, fun _ => unhide H7, unhide F7⟩
    · skip
      have NZ := hide (nz_any B g y t st r (((true : Bool) != (false : Bool)) && ((true : Bool) == (true : Bool))) w2 (unhide H2))
      go_wp2_with fail
      refine (unhide NZ).mono ?_
      rintro e w3 ⟨rfl, h3, f3⟩
      have H3 := hide h3
      have F3 := hide ((Fm.of (unhide B2)).trans f3)
      have R3 := hide (f3.row (unhide R2) (by have := unhide GL; omega) (fun e => by have := unhide YL _ e; omega))
      clear h3 f3 NZ H2 B2 R2
      have c5 := row_c (unhide H3).row
      have f5 := row_fz (unhide H3).row 5
      obtain ⟨h4, f4⟩ := (unhide H3).setC (decide (D < s))
      have H4 := hide h4
      have F4 := hide ((unhide F3).trans f4)
      have R4 := hide (f4.row (unhide R3) (by have := unhide GL; omega) (fun e => by have := unhide YL _ e; omega))
      clear h4 f4
      have P := hide (put7_any B g _ ((t.nz r (((true : Bool) != (false : Bool)) && ((true : Bool) == (true : Bool)))).cs (decide (D < s))) st qr qa r _ (unhide H4) (unhide DK))
      rw [show ((t.nz r (((true : Bool) != (false : Bool)) && ((true : Bool) == (true : Bool)))).cs (decide (D < s))).d.ldB qr qa = true from unhide HQ] at P
      go_wp2_with (refine wpList_load_row rfl 97 _ rfl w.heap.size rfl 97 #[.int .i64 qr, .int .i64 qa] (0, 0) _ (unhide R4) Tryz.underlying97 rfl (by kernel_rfl) ?_)
      refine (unhide P).mono ?_
      rintro e w7 ⟨rfl, y7, h7, f7⟩
      have H7 := hide h7
      have F7 := hide ((unhide F4).trans f7)
      clear h7 f7 P
      go_wp2
      go_ret
      exact ⟨rfl, y7, fun _ => unhide H7, unhide F7⟩
  · skip
    have NZ := hide (nz_any B g y t st r (((true : Bool) != (true : Bool)) && ((b3 : Bool) == (true : Bool))) w2 (unhide H2))
    go_wp2_with fail
    refine (unhide NZ).mono ?_
    rintro e w3 ⟨rfl, h3, f3⟩
    have H3 := hide h3
    have F3 := hide ((Fm.of (unhide B2)).trans f3)
    have R3 := hide (f3.row (unhide R2) (by have := unhide GL; omega) (fun e => by have := unhide YL _ e; omega))
    clear h3 f3 NZ H2 B2 R2
    have c5 := row_c (unhide H3).row
    have f5 := row_fz (unhide H3).row 5
    obtain ⟨h4, f4⟩ := (unhide H3).setC (decide (D < s))
    have H4 := hide h4
    have F4 := hide ((unhide F3).trans f4)
    have R4 := hide (f4.row (unhide R3) (by have := unhide GL; omega) (fun e => by have := unhide YL _ e; omega))
    clear h4 f4
    have P := hide (put7_any B g _ ((t.nz r (((true : Bool) != (true : Bool)) && ((b3 : Bool) == (true : Bool)))).cs (decide (D < s))) st qr qa r _ (unhide H4) (unhide DK))
    rw [show ((t.nz r (((true : Bool) != (true : Bool)) && ((b3 : Bool) == (true : Bool)))).cs (decide (D < s))).d.ldB qr qa = true from unhide HQ] at P
    go_wp2_with (refine wpList_load_row rfl 97 _ rfl w.heap.size rfl 97 #[.int .i64 qr, .int .i64 qa] (0, 0) _ (unhide R4) Tryz.underlying97 rfl (by kernel_rfl) ?_)
    refine (unhide P).mono ?_
    rintro e w7 ⟨rfl, y7, h7, f7⟩
    have H7 := hide h7
    have F7 := hide ((unhide F4).trans f7)
    clear h7 f7 P
    go_wp2
    go_ret
    exact ⟨rfl, y7, fun _ => unhide H7, unhide F7⟩
/-- An instruction of two operands by the model. -/
theorem two_any (B g : Nat) (y : Mv) (t : Ms) (st s qr qa : Int) (op : Nat) (ho : 1 ≤ op ∧ op ≤ 6) (w : World) (h : Sm w B g y t st) (hk : Dk t.d) (hs : 0 ≤ s ∧ s ≤ 65535) : TwIs B g y t (t.two op s qr qa) st op s qr qa (t.d.ldB qr qa) w := by
  by_cases h1 : op = 1
  · subst h1
    exact two_1 B g y t st s qr qa w h hk hs
  · obtain ⟨q, hq⟩ : ∃ q, t.d.ldB qr qa = q := ⟨_, rfl⟩
    rw [hq]
    have e : op = 2 ∨ op = 3 ∨ op = 4 ∨ op = 5 ∨ op = 6 := by omega
    cases q
    · have key : ∀ t2 : Ms, ∀ o : Int, TwIs B g y t t st o s qr qa false w → TwIs B g y t t2 st o s qr qa false w := fun t2 o k => k.mono fun e w' ⟨a, y', _, f⟩ => ⟨a, y', fun h => Bool.noConfusion h, f⟩
      rcases e with rfl | rfl | rfl | rfl | rfl
      · exact key _ _ (two_2n B g y t st s qr qa w h hk hs hq)
      · exact key _ _ (two_3n B g y t st s qr qa w h hk hs hq)
      · exact key _ _ (two_4n B g y t st s qr qa w h hk hs hq)
      · exact key _ _ (two_5n B g y t st s qr qa w h hk hs hq)
      · exact key _ _ (two_6n B g y t st s qr qa w h hk hs hq)
    · rcases e with rfl | rfl | rfl | rfl | rfl
      · exact two_2 B g y t st s qr qa w h hk hs hq
      · exact two_3 B g y t st s qr qa w h hk hs hq
      · exact two_4 B g y t st s qr qa w h hk hs hq
      · exact two_5 B g y t st s qr qa w h hk hs hq
      · exact two_6 B g y t st s qr qa w h hk hs hq
end Go.Proofs.YtjpbjbnialehbaaGreatDoor

namespace Go.Proofs.YtjpbjbnialehbaaGreatDoor
open Go.ChangeShapes Go.WideShapes Go.ChangeAt Go.RowKit
set_option linter.unusedVariables false
set_option maxRecDepth 8000
set_option linter.unusedSimpArgs false
/-- A word with its sign. -/
def sgV (n : Int) : Int := if 32768 ≤ n % 65536 then n % 65536 - 65536 else n % 65536
theorem sgV_b (n : Int) : -32768 ≤ sgV n ∧ sgV n ≤ 32767 := by
  unfold sgV
  split <;> omega
theorem signedS_any (n : Int) (w : World) : Calls Tryz.prog 145 #[.int .i64 n] w fun e w' => e = .returned (.int .i64 (sgV n)) ∧ w' = w := by
  have WR := hide (fun w => wrapS_any n w)
  unfold sgV
  have q0 := Int.emod_nonneg n (show (65536 : Int) ≠ 0 by decide)
  have q1 := Int.emod_lt_of_pos n (show (0 : Int) < 65536 by decide)
  generalize n % 65536 = q at WR q0 q1 ⊢
  by_cases h : 32768 ≤ q
  · rw [if_pos h]
    go_enter Tryz.func145, Tryz.ntmps145
    go_wp2_with fail
    refine (unhide WR _).mono ?_
    rintro e w' ⟨rfl, rfl⟩
    go_wp2
    go_ret
    exact ⟨rfl, rfl⟩
  · rw [if_neg h]
    go_enter Tryz.func145, Tryz.ntmps145
    go_wp2_with fail
    refine (unhide WR _).mono ?_
    rintro e w' ⟨rfl, rfl⟩
    go_wp2
    go_ret
    exact ⟨rfl, rfl⟩
def shR (op : Nat) (d : Int) : Int := if op = 12 then (sgV d / 2) % 65536 else (d * 2) % 65536
def shC (op : Nat) (d : Int) : Bool := if op = 12 then (bits .and .i64 d 1 == 1) else sgB d
/-- A shift. -/
def Ms.shift (t : Ms) (op : Nat) (d qr qa : Int) : Ms := ((t.nz (shR op d) (sgB (shR op d) != shC op d)).cs (shC op d)).st qr qa (shR op d)
def ShIs (B g : Nat) (y : Mv) (t t2 : Ms) (st op d qr qa : Int) (ok : Bool) (w : World) : Prop :=
  Calls Tryz.prog 126 #[.pointer (some ⟨g, 0, none⟩), .int .i64 op, .int .i64 d, .agg #[.int .i64 qr, .int .i64 qa]] w fun e w' => e = .returned (.bool ok) ∧ ∃ y', Sm w' B g y' t2 st ∧ Fm w w' g y y'
set_option maxHeartbeats 8000000 in
theorem shift_13 (B g : Nat) (y : Mv) (t : Ms) (st d qr qa : Int) (w : World) (h : Sm w B g y t st) (hk : Dk t.d) (hd : 0 ≤ d ∧ d ≤ 65535) : ShIs B g y t (t.shift 13 d qr qa) st 13 d qr qa (t.d.ldB qr qa) w := by
  obtain ⟨d0, d1⟩ := hd
  have GL := hide (show g < w.heap.size from row_lt h.row)
  have YL := hide (fun b (hb : y.at b) => (h.own.lo hb).2)
  have H2 := hide (h.later (below_new w (Obj.cells #[.int .i64 qr, .int .i64 qa] 97)))
  have R2 := hide (heap_alloc_last w (Obj.cells #[.int .i64 qr, .int .i64 qa] 97))
  have B2 := hide (below_new w (Obj.cells #[.int .i64 qr, .int .i64 qa] 97))
  have DK := hide hk
  unfold ShIs Ms.shift
  have WR := hide (fun v => wrapS_any (d * 2) v)
  have SD := hide (fun v => sign_any d v)
  rw [show shR 13 d = (d * 2) % 65536 from rfl, show shC 13 d = sgB d from rfl]
  generalize sgB d = C at SD ⊢
  generalize (d * 2) % 65536 = r at WR ⊢
  have SR := hide (fun v => sign_any r v)
  generalize sgB r = br at SR ⊢
  clear h hk
  go_enter Tryz.func126, Tryz.ntmps126
  skip
  go_wp2_with fail
  refine (unhide WR _).mono ?_
  rintro e w9 ⟨rfl, hw9⟩
  rw [hw9]
  clear hw9 w9
  go_wp2_with fail
  refine (unhide SD _).mono ?_
  rintro e w9 ⟨rfl, hw9⟩
  rw [hw9]
  clear hw9 w9
  go_wp2_with fail
  refine (unhide SR _).mono ?_
  rintro e w9 ⟨rfl, hw9⟩
  rw [hw9]
  clear hw9 w9
  cases br <;> cases C
  · skip
    have NZ := hide (nz_any B g y t st r ((false : Bool) != (false : Bool)) (w.alloc (Obj.cells #[.int .i64 qr, .int .i64 qa] 97)) (unhide H2))
    go_wp2_with fail
    refine (unhide NZ).mono ?_
    rintro e w3 ⟨rfl, h3, f3⟩
    have H3 := hide h3
    have F3 := hide ((Fm.of (unhide B2)).trans f3)
    have R3 := hide (f3.row (unhide R2) (by have := unhide GL; omega) (fun e => by have := unhide YL _ e; omega))
    clear h3 f3 NZ H2 B2 R2
    have c5 := row_c (unhide H3).row
    have f5 := row_fz (unhide H3).row 5
    obtain ⟨h4, f4⟩ := (unhide H3).setC (false)
    have H4 := hide h4
    have F4 := hide ((unhide F3).trans f4)
    have R4 := hide (f4.row (unhide R3) (by have := unhide GL; omega) (fun e => by have := unhide YL _ e; omega))
    clear h4 f4
    have P := hide (put7_any B g _ ((t.nz r ((false : Bool) != (false : Bool))).cs false) st qr qa r _ (unhide H4) (unhide DK))
    go_wp2_with (refine wpList_load_row rfl 97 _ rfl w.heap.size rfl 97 #[.int .i64 qr, .int .i64 qa] (0, 0) _ (unhide R4) Tryz.underlying97 rfl (by kernel_rfl) ?_)
    refine (unhide P).mono ?_
    rintro e w7 ⟨rfl, y7, h7, f7⟩
    have H7 := hide h7
    have F7 := hide ((unhide F4).trans f7)
    clear h7 f7 P
    go_wp2
    go_ret
    exact ⟨rfl, y7, unhide H7, unhide F7⟩
  · skip
    have NZ := hide (nz_any B g y t st r ((false : Bool) != (true : Bool)) (w.alloc (Obj.cells #[.int .i64 qr, .int .i64 qa] 97)) (unhide H2))
    go_wp2_with fail
    refine (unhide NZ).mono ?_
    rintro e w3 ⟨rfl, h3, f3⟩
    have H3 := hide h3
    have F3 := hide ((Fm.of (unhide B2)).trans f3)
    have R3 := hide (f3.row (unhide R2) (by have := unhide GL; omega) (fun e => by have := unhide YL _ e; omega))
    clear h3 f3 NZ H2 B2 R2
    have c5 := row_c (unhide H3).row
    have f5 := row_fz (unhide H3).row 5
    obtain ⟨h4, f4⟩ := (unhide H3).setC (true)
    have H4 := hide h4
    have F4 := hide ((unhide F3).trans f4)
    have R4 := hide (f4.row (unhide R3) (by have := unhide GL; omega) (fun e => by have := unhide YL _ e; omega))
    clear h4 f4
    have P := hide (put7_any B g _ ((t.nz r ((false : Bool) != (true : Bool))).cs true) st qr qa r _ (unhide H4) (unhide DK))
    go_wp2_with (refine wpList_load_row rfl 97 _ rfl w.heap.size rfl 97 #[.int .i64 qr, .int .i64 qa] (0, 0) _ (unhide R4) Tryz.underlying97 rfl (by kernel_rfl) ?_)
    refine (unhide P).mono ?_
    rintro e w7 ⟨rfl, y7, h7, f7⟩
    have H7 := hide h7
    have F7 := hide ((unhide F4).trans f7)
    clear h7 f7 P
    go_wp2
    go_ret
    exact ⟨rfl, y7, unhide H7, unhide F7⟩
  · skip
    have NZ := hide (nz_any B g y t st r ((true : Bool) != (false : Bool)) (w.alloc (Obj.cells #[.int .i64 qr, .int .i64 qa] 97)) (unhide H2))
    go_wp2_with fail
    refine (unhide NZ).mono ?_
    rintro e w3 ⟨rfl, h3, f3⟩
    have H3 := hide h3
    have F3 := hide ((Fm.of (unhide B2)).trans f3)
    have R3 := hide (f3.row (unhide R2) (by have := unhide GL; omega) (fun e => by have := unhide YL _ e; omega))
    clear h3 f3 NZ H2 B2 R2
    have c5 := row_c (unhide H3).row
    have f5 := row_fz (unhide H3).row 5
    obtain ⟨h4, f4⟩ := (unhide H3).setC (false)
    have H4 := hide h4
    have F4 := hide ((unhide F3).trans f4)
    have R4 := hide (f4.row (unhide R3) (by have := unhide GL; omega) (fun e => by have := unhide YL _ e; omega))
    clear h4 f4
    have P := hide (put7_any B g _ ((t.nz r ((true : Bool) != (false : Bool))).cs false) st qr qa r _ (unhide H4) (unhide DK))
    go_wp2_with (refine wpList_load_row rfl 97 _ rfl w.heap.size rfl 97 #[.int .i64 qr, .int .i64 qa] (0, 0) _ (unhide R4) Tryz.underlying97 rfl (by kernel_rfl) ?_)
    refine (unhide P).mono ?_
    rintro e w7 ⟨rfl, y7, h7, f7⟩
    have H7 := hide h7
    have F7 := hide ((unhide F4).trans f7)
    clear h7 f7 P
    go_wp2
    go_ret
    exact ⟨rfl, y7, unhide H7, unhide F7⟩
  · skip
    have NZ := hide (nz_any B g y t st r ((true : Bool) != (true : Bool)) (w.alloc (Obj.cells #[.int .i64 qr, .int .i64 qa] 97)) (unhide H2))
    go_wp2_with fail
    refine (unhide NZ).mono ?_
    rintro e w3 ⟨rfl, h3, f3⟩
    have H3 := hide h3
    have F3 := hide ((Fm.of (unhide B2)).trans f3)
    have R3 := hide (f3.row (unhide R2) (by have := unhide GL; omega) (fun e => by have := unhide YL _ e; omega))
    clear h3 f3 NZ H2 B2 R2
    have c5 := row_c (unhide H3).row
    have f5 := row_fz (unhide H3).row 5
    obtain ⟨h4, f4⟩ := (unhide H3).setC (true)
    have H4 := hide h4
    have F4 := hide ((unhide F3).trans f4)
    have R4 := hide (f4.row (unhide R3) (by have := unhide GL; omega) (fun e => by have := unhide YL _ e; omega))
    clear h4 f4
    have P := hide (put7_any B g _ ((t.nz r ((true : Bool) != (true : Bool))).cs true) st qr qa r _ (unhide H4) (unhide DK))
    go_wp2_with (refine wpList_load_row rfl 97 _ rfl w.heap.size rfl 97 #[.int .i64 qr, .int .i64 qa] (0, 0) _ (unhide R4) Tryz.underlying97 rfl (by kernel_rfl) ?_)
    refine (unhide P).mono ?_
    rintro e w7 ⟨rfl, y7, h7, f7⟩
    have H7 := hide h7
    have F7 := hide ((unhide F4).trans f7)
    clear h7 f7 P
    go_wp2
    go_ret
    exact ⟨rfl, y7, unhide H7, unhide F7⟩
set_option maxHeartbeats 8000000 in
theorem shift_12 (B g : Nat) (y : Mv) (t : Ms) (st d qr qa : Int) (w : World) (h : Sm w B g y t st) (hk : Dk t.d) (hd : 0 ≤ d ∧ d ≤ 65535) : ShIs B g y t (t.shift 12 d qr qa) st 12 d qr qa (t.d.ldB qr qa) w := by
  obtain ⟨d0, d1⟩ := hd
  have GL := hide (show g < w.heap.size from row_lt h.row)
  have YL := hide (fun b (hb : y.at b) => (h.own.lo hb).2)
  have H2 := hide (h.later (below_new w (Obj.cells #[.int .i64 qr, .int .i64 qa] 97)))
  have R2 := hide (heap_alloc_last w (Obj.cells #[.int .i64 qr, .int .i64 qa] 97))
  have B2 := hide (below_new w (Obj.cells #[.int .i64 qr, .int .i64 qa] 97))
  have DK := hide hk
  unfold ShIs Ms.shift
  have WR := hide (fun v => wrapS_any (d * 2) v)
  have SD := hide (fun v => sign_any d v)
  rw [show shR 12 d = (sgV d / 2) % 65536 from rfl, show shC 12 d = (bits .and .i64 d 1 == 1) from rfl]
  have SV := hide (fun v => signedS_any d v)
  obtain ⟨e0, e1⟩ := sgV_b d
  generalize sgV d = e at SV e0 e1 ⊢
  have WQ := hide (fun v => wrapS_any (e / 2) v)
  have W2 := hide (show ∃ r, (e / 2) % 65536 = r from ⟨_, rfl⟩)
  generalize (e / 2) % 65536 = r at WQ ⊢
  generalize sgB d = bd at SD
  generalize (d * 2) % 65536 = r2 at WR
  obtain ⟨C, hC⟩ : ∃ q, (bits .and .i64 d 1 == 1) = q := ⟨_, rfl⟩
  rw [hC]
  clear W2
  have SR := hide (fun v => sign_any r v)
  generalize sgB r = br at SR ⊢
  clear h hk
  go_enter Tryz.func126, Tryz.ntmps126
  skip
  go_wp2_with fail
  refine (unhide WR _).mono ?_
  rintro e w9 ⟨rfl, hw9⟩
  rw [hw9]
  clear hw9 w9
  go_wp2_with fail
  refine (unhide SD _).mono ?_
  rintro e w9 ⟨rfl, hw9⟩
  rw [hw9]
  clear hw9 w9
  go_wp2_with fail
  refine (unhide SV _).mono ?_
  rintro e w9 ⟨rfl, hw9⟩
  rw [hw9]
  clear hw9 w9
  go_wp2_with fail
  refine (unhide WQ _).mono ?_
  rintro e w9 ⟨rfl, hw9⟩
  rw [hw9]
  clear hw9 w9
  go_wp2_with fail
  refine (unhide SR _).mono ?_
  rintro e w9 ⟨rfl, hw9⟩
  rw [hw9]
  clear hw9 w9
  cases br <;> cases C
  · skip
    have NZ := hide (nz_any B g y t st r ((false : Bool) != (false : Bool)) (w.alloc (Obj.cells #[.int .i64 qr, .int .i64 qa] 97)) (unhide H2))
    go_wp2_with fail
    refine (unhide NZ).mono ?_
    rintro e w3 ⟨rfl, h3, f3⟩
    have H3 := hide h3
    have F3 := hide ((Fm.of (unhide B2)).trans f3)
    have R3 := hide (f3.row (unhide R2) (by have := unhide GL; omega) (fun e => by have := unhide YL _ e; omega))
    clear h3 f3 NZ H2 B2 R2
    have c5 := row_c (unhide H3).row
    have f5 := row_fz (unhide H3).row 5
    obtain ⟨h4, f4⟩ := (unhide H3).setC (false)
    have H4 := hide h4
    have F4 := hide ((unhide F3).trans f4)
    have R4 := hide (f4.row (unhide R3) (by have := unhide GL; omega) (fun e => by have := unhide YL _ e; omega))
    clear h4 f4
    have P := hide (put7_any B g _ ((t.nz r ((false : Bool) != (false : Bool))).cs false) st qr qa r _ (unhide H4) (unhide DK))
    go_wp2_with (refine wpList_load_row rfl 97 _ rfl w.heap.size rfl 97 #[.int .i64 qr, .int .i64 qa] (0, 0) _ (unhide R4) Tryz.underlying97 rfl (by kernel_rfl) ?_)
    refine (unhide P).mono ?_
    rintro e w7 ⟨rfl, y7, h7, f7⟩
    have H7 := hide h7
    have F7 := hide ((unhide F4).trans f7)
    clear h7 f7 P
    go_wp2
    go_ret
    exact ⟨rfl, y7, unhide H7, unhide F7⟩
  · skip
    have NZ := hide (nz_any B g y t st r ((false : Bool) != (true : Bool)) (w.alloc (Obj.cells #[.int .i64 qr, .int .i64 qa] 97)) (unhide H2))
    go_wp2_with fail
    refine (unhide NZ).mono ?_
    rintro e w3 ⟨rfl, h3, f3⟩
    have H3 := hide h3
    have F3 := hide ((Fm.of (unhide B2)).trans f3)
    have R3 := hide (f3.row (unhide R2) (by have := unhide GL; omega) (fun e => by have := unhide YL _ e; omega))
    clear h3 f3 NZ H2 B2 R2
    have c5 := row_c (unhide H3).row
    have f5 := row_fz (unhide H3).row 5
    obtain ⟨h4, f4⟩ := (unhide H3).setC (true)
    have H4 := hide h4
    have F4 := hide ((unhide F3).trans f4)
    have R4 := hide (f4.row (unhide R3) (by have := unhide GL; omega) (fun e => by have := unhide YL _ e; omega))
    clear h4 f4
    have P := hide (put7_any B g _ ((t.nz r ((false : Bool) != (true : Bool))).cs true) st qr qa r _ (unhide H4) (unhide DK))
    go_wp2_with (refine wpList_load_row rfl 97 _ rfl w.heap.size rfl 97 #[.int .i64 qr, .int .i64 qa] (0, 0) _ (unhide R4) Tryz.underlying97 rfl (by kernel_rfl) ?_)
    refine (unhide P).mono ?_
    rintro e w7 ⟨rfl, y7, h7, f7⟩
    have H7 := hide h7
    have F7 := hide ((unhide F4).trans f7)
    clear h7 f7 P
    go_wp2
    go_ret
    exact ⟨rfl, y7, unhide H7, unhide F7⟩
  · skip
    have NZ := hide (nz_any B g y t st r ((true : Bool) != (false : Bool)) (w.alloc (Obj.cells #[.int .i64 qr, .int .i64 qa] 97)) (unhide H2))
    go_wp2_with fail
    refine (unhide NZ).mono ?_
    rintro e w3 ⟨rfl, h3, f3⟩
    have H3 := hide h3
    have F3 := hide ((Fm.of (unhide B2)).trans f3)
    have R3 := hide (f3.row (unhide R2) (by have := unhide GL; omega) (fun e => by have := unhide YL _ e; omega))
    clear h3 f3 NZ H2 B2 R2
    have c5 := row_c (unhide H3).row
    have f5 := row_fz (unhide H3).row 5
    obtain ⟨h4, f4⟩ := (unhide H3).setC (false)
    have H4 := hide h4
    have F4 := hide ((unhide F3).trans f4)
    have R4 := hide (f4.row (unhide R3) (by have := unhide GL; omega) (fun e => by have := unhide YL _ e; omega))
    clear h4 f4
    have P := hide (put7_any B g _ ((t.nz r ((true : Bool) != (false : Bool))).cs false) st qr qa r _ (unhide H4) (unhide DK))
    go_wp2_with (refine wpList_load_row rfl 97 _ rfl w.heap.size rfl 97 #[.int .i64 qr, .int .i64 qa] (0, 0) _ (unhide R4) Tryz.underlying97 rfl (by kernel_rfl) ?_)
    refine (unhide P).mono ?_
    rintro e w7 ⟨rfl, y7, h7, f7⟩
    have H7 := hide h7
    have F7 := hide ((unhide F4).trans f7)
    clear h7 f7 P
    go_wp2
    go_ret
    exact ⟨rfl, y7, unhide H7, unhide F7⟩
  · skip
    have NZ := hide (nz_any B g y t st r ((true : Bool) != (true : Bool)) (w.alloc (Obj.cells #[.int .i64 qr, .int .i64 qa] 97)) (unhide H2))
    go_wp2_with fail
    refine (unhide NZ).mono ?_
    rintro e w3 ⟨rfl, h3, f3⟩
    have H3 := hide h3
    have F3 := hide ((Fm.of (unhide B2)).trans f3)
    have R3 := hide (f3.row (unhide R2) (by have := unhide GL; omega) (fun e => by have := unhide YL _ e; omega))
    clear h3 f3 NZ H2 B2 R2
    have c5 := row_c (unhide H3).row
    have f5 := row_fz (unhide H3).row 5
    obtain ⟨h4, f4⟩ := (unhide H3).setC (true)
    have H4 := hide h4
    have F4 := hide ((unhide F3).trans f4)
    have R4 := hide (f4.row (unhide R3) (by have := unhide GL; omega) (fun e => by have := unhide YL _ e; omega))
    clear h4 f4
    have P := hide (put7_any B g _ ((t.nz r ((true : Bool) != (true : Bool))).cs true) st qr qa r _ (unhide H4) (unhide DK))
    go_wp2_with (refine wpList_load_row rfl 97 _ rfl w.heap.size rfl 97 #[.int .i64 qr, .int .i64 qa] (0, 0) _ (unhide R4) Tryz.underlying97 rfl (by kernel_rfl) ?_)
    refine (unhide P).mono ?_
    rintro e w7 ⟨rfl, y7, h7, f7⟩
    have H7 := hide h7
    have F7 := hide ((unhide F4).trans f7)
    clear h7 f7 P
    go_wp2
    go_ret
    exact ⟨rfl, y7, unhide H7, unhide F7⟩
theorem shift_any (B g : Nat) (y : Mv) (t : Ms) (st d qr qa : Int) (op : Nat) (ho : op = 12 ∨ op = 13) (w : World) (h : Sm w B g y t st) (hk : Dk t.d) (hd : 0 ≤ d ∧ d ≤ 65535) : ShIs B g y t (t.shift op d qr qa) st op d qr qa (t.d.ldB qr qa) w := by
  rcases ho with rfl | rfl
  · exact shift_12 B g y t st d qr qa w h hk hd
  · exact shift_13 B g y t st d qr qa w h hk hd
end Go.Proofs.YtjpbjbnialehbaaGreatDoor
