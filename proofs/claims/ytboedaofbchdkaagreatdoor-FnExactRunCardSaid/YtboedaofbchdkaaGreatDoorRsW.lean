/- Contracts over this seat's translation, laid together; conditions stand as hypotheses of each. -/
import Derived.Test.YtboedaofbchdkaaGreatDoorRsV
namespace Go.Proofs.YtboedaofbchdkaaGreatDoor
open Go.ChangeShapes Go.WideShapes Go.ChangeAt Go.RowKit
set_option maxHeartbeats 16000000
set_option linter.unusedVariables false
set_option maxRecDepth 8000
set_option linter.unusedSimpArgs false
section
theorem ms_of_eq {y : Mv} {t : Ms} {st : Int} (h : y.fl = t.fl st) : y.ms t.d = t ∧ y.st = st := by
 have h2 := h
 simp only [Mv.fl, Ms.fl, Prod.mk.injEq] at h2
 obtain ⟨a, b, c, d, e⟩ := h2
 exact ⟨by unfold Mv.ms; rw [a, b, c, d], e⟩
structure Wk (w wr : World) (y : Mv) (t : Ms) (st : Int) : Prop where
 b : Bst w wr y
 own : OwnE wr (w.heap.size + 2) y t.d
 fl : y.fl = t.fl st
 sm : t.d.small
section
variable {w wr w' : World} {y y2 : Mv} {t t2 : Ms} {st s2 : Int}
theorem Bst.put {x : Mv} (h : Bst w wr x) (y : Mv) : Bst w (wr.setRow w.heap.size y.cs) y :=
 ⟨setRow_heap wr _ _ _ 26 _ h.bx, by rw [setRow_other wr w.heap.size (w.heap.size + 1) y.cs (by omega)]; exact h.re, below_setRow h.bel (Nat.le_refl _) _, by have := h.sz; simpa using this⟩
theorem Wk.step (h : Wk w wr y t st) (hb : Below wr.heap.size wr w') (o : OwnE w' (wr.heap.size + 2) y2 t2.d) (hf : y2.fl = t2.fl s2) (hs : t2.d.small) : Wk w (w'.setRow w.heap.size y2.cs) y2 t2 s2 :=
 ⟨(h.b.later hb).put y2, (o.base (by have := h.b.sz; omega)).row (by omega) _, hf, hs⟩
theorem Wk.tab (h : Wk w wr y t st) (ht : Tab w) : Tab wr := ht.later h.b.bel
theorem Wk.stp (h : Wk w wr y t st) (ht : Tab w) : StIs y t.d (t.stA st).d ((t.stA st).fl (t.stN st)) wr := by
 have q := stepI_all y t.d wr (small_mv h.own.rd h.sm) h.own.nz h.own.rd (h.tab ht)
 rw [(ms_of_eq h.fl).1, (ms_of_eq h.fl).2] at q
 exact q
end
def WlIs (x : Mv) (n : Int) (d2 : Md) (f2 : Bool × Bool × Bool × Bool × Int) (w : World) : Prop := Calls Tryz.prog 17 #[.agg x.cs, .int .i64 n] w fun e w' => ∃ (y : Mv) (k : Int), e = .returned (.tuple #[.agg y.cs, .int .i64 k]) ∧ y.fl = f2 ∧ OwnE w' (w.heap.size + 2) y d2 ∧ Below w.heap.size w w'
theorem walk_any (x : Mv) (d : Md) (n : Int) (w : World) (hs : x.small) (hz : x.nz) (hr : RdM w x d) (ht : Tab w) : WlIs x n ((x.ms d).rn x.st n).1.d (((x.ms d).rn x.st n).1.fl ((x.ms d).rn x.st n).2) w := by
 have B1 := hide (bst_new w x)
 have CM := hide (copyM_any x d _ hs hz (hr.later (uh B1).bel))
 have SM := hide (small_md hr hs)
 have TB := hide ht
 unfold WlIs
 by_cases hn : 0 ≤ n ∧ n ≤ 2000
 rotate_left
 ·
  rw [rn_out _ _ _ hn]
  clear hs hz hr ht
  go_enter Tryz.func17, Tryz.ntmps17
  go_wp2_with (refine wpList_load_row rfl 26 _ rfl w.heap.size rfl 26 x.cs (0, 0) _ (uh B1).bx Tryz.underlying26 rfl (by kernel_rfl) ?_)
  refine (uh CM).mono ?_
  rintro e w2 ⟨y, rfl, fy, oy, hb⟩
  have W2 := hide (show Wk w (w2.setRow w.heap.size y.cs) y (x.ms d) x.st from ⟨((uh B1).later hb).put y, (oy.toE.base (by have := (uh B1).sz; omega)).row (by omega) _, fy, uh SM⟩)
  have B2 := hide ((uh B1).later hb)
  clear fy oy hb CM B1
  by_cases h0 : n < 0
  ·
   go_wp2_with (first | (refine wpList_store_row rfl 26 _ _ rfl w.heap.size y.cs rfl rfl 26 x.cs (uh B2).bx (by kernel_rfl) rfl (Mv.cs_one _) ?_) | (refine wpList_load_row rfl 26 _ rfl w.heap.size rfl 26 y.cs (0, 0) _ (uh W2).b.bx Tryz.underlying26 rfl (by kernel_rfl) ?_) | (refine wpList_store_row rfl 26 _ _ rfl (w.heap.size + 1) y.cs rfl rfl 26 zMv.cs (uh W2).b.re (by kernel_rfl) rfl (Mv.cs_one _) ?_))
   obtain ⟨r1, r2⟩ := (uh W2).b.done y.cs
   refine bodyPost_ret (results_row2 (P := Tryz.prog) rfl _ _ (w.heap.size + 1) 26 y.cs (0, 0) _ rfl r1 Tryz.underlying26 rfl (by kernel_rfl)) rfl ?_
   exact ⟨y, _, rfl, (uh W2).fl, (uh W2).own.row (by omega) _, r2⟩
  ·
   have h2 : 2000 < n := by omega
   go_wp2_with (first | (refine wpList_store_row rfl 26 _ _ rfl w.heap.size y.cs rfl rfl 26 x.cs (uh B2).bx (by kernel_rfl) rfl (Mv.cs_one _) ?_) | (refine wpList_load_row rfl 26 _ rfl w.heap.size rfl 26 y.cs (0, 0) _ (uh W2).b.bx Tryz.underlying26 rfl (by kernel_rfl) ?_) | (refine wpList_store_row rfl 26 _ _ rfl (w.heap.size + 1) y.cs rfl rfl 26 zMv.cs (uh W2).b.re (by kernel_rfl) rfl (Mv.cs_one _) ?_))
   obtain ⟨r1, r2⟩ := (uh W2).b.done y.cs
   refine bodyPost_ret (results_row2 (P := Tryz.prog) rfl _ _ (w.heap.size + 1) 26 y.cs (0, 0) _ rfl r1 Tryz.underlying26 rfl (by kernel_rfl)) rfl ?_
   exact ⟨y, _, rfl, (uh W2).fl, (uh W2).own.row (by omega) _, r2⟩
 ·
  obtain ⟨N, hN⟩ := Int.eq_ofNat_of_zero_le hn.1
  subst hN
  have hN2 : N ≤ 2000 := by omega
  rw [rn_in _ _ _ hN2]
  obtain ⟨T, hT⟩ : ∃ T, T = Ms.it N (x.ms d) x.st := ⟨_, rfl⟩
  rw [← hT]
  have ET := hide hT
  clear hs hz hr ht hn hT
  go_enter Tryz.func17, Tryz.ntmps17
  go_wp2_with (refine wpList_load_row rfl 26 _ rfl w.heap.size rfl 26 x.cs (0, 0) _ (uh B1).bx Tryz.underlying26 rfl (by kernel_rfl) ?_)
  refine (uh CM).mono ?_
  rintro e w2 ⟨y0, rfl, fy, oy, hb⟩
  have W2 := hide (show Wk w (w2.setRow w.heap.size y0.cs) y0 (x.ms d) x.st from ⟨((uh B1).later hb).put y0, (oy.toE.base (by have := (uh B1).sz; omega)).row (by omega) _, fy, uh SM⟩)
  have B2 := hide ((uh B1).later hb)
  clear fy oy hb CM B1
  go_wp2_with (first | (refine wpList_store_row rfl 26 _ _ rfl w.heap.size y0.cs rfl rfl 26 x.cs (uh B2).bx (by kernel_rfl) rfl (Mv.cs_one _) ?_) | (refine wpList_load_row rfl 26 _ rfl w.heap.size rfl 26 y0.cs (0, 0) _ (uh W2).b.bx Tryz.underlying26 rfl (by kernel_rfl) ?_) | (refine wpList_store_row rfl 26 _ _ rfl (w.heap.size + 1) y0.cs rfl rfl 26 zMv.cs (uh W2).b.re (by kernel_rfl) rfl (Mv.cs_one _) ?_))
  go_loopw [17] (fun i wr => ∃ (k : Nat) (y : Mv) (t : Ms) (st : Int), k ≤ N ∧ i = .int .i64 k ∧ Wk w wr y t st ∧ Hid (T = Ms.it (N - k) t st)) (fun i _ => N - (intOf i).toNat)
  case atStart => exact ⟨0, y0, x.ms d, x.st, Nat.zero_le _, rfl, uh W2, uh ET⟩
  case round =>
   clear W2 B2 ET SM
   obtain ⟨k, y, t, st, hk, rfl, hw, hT⟩ := hrel
   have W1 := hide hw
   by_cases hlt : k < N
   ·
    have c8 := row_st hw.b.bx
    rw [(ms_of_eq hw.fl).2] at c8
    by_cases hst : st = 0
    ·
     subst hst
     have ST := hide (hw.stp (uh TB))
     unfold StIs at ST
     have SM := hide (small_stA t 0 hw.sm)
     have E2 := hide (show T = Ms.it (N - (k + 1)) (t.stA 0) (t.stN 0) by rw [hT.out, show N - k = (N - (k + 1)) + 1 by omega]; rfl)
     generalize t.stN 0 = s2 at ST E2
     generalize t.stA 0 = t2 at ST SM E2
     clear hw hT
     go_wp2_with (refine wpList_load_row rfl 26 _ rfl w.heap.size rfl 26 y.cs (0, 0) _ (uh W1).b.bx Tryz.underlying26 rfl (by kernel_rfl) ?_)
     refine (uh ST).mono ?_
     rintro e w3 ⟨y2, rfl, fy, oy, hb⟩
     have W3 := hide ((uh W1).step hb oy fy (uh SM))
     have R3 := hide ((uh W1).b.later hb).bx
     clear fy oy hb ST SM c8 W1
     go_wp2_with (refine wpList_store_row rfl 26 _ _ rfl w.heap.size y2.cs rfl rfl 26 y.cs (uh R3) (by kernel_rfl) rfl (Mv.cs_one _) ?_)
     go_roundw
     case rel => exact ⟨k + 1, y2, t2, s2, by omega, by go_num, uh W3, uh E2⟩
     case measure => simp [intOf]; omega
    ·
     have E1 := hide (show T = (t, st) by rw [hT.out]; exact it_stand hst _)
     clear hw hT
     go_wp2_with (first | (refine wpList_load_row rfl 26 _ rfl w.heap.size rfl 26 y.cs (0, 0) _ (uh W1).b.bx Tryz.underlying26 rfl (by kernel_rfl) ?_) | (refine wpList_store_row rfl 26 _ _ rfl (w.heap.size + 1) y.cs rfl rfl 26 zMv.cs (uh W1).b.re (by kernel_rfl) rfl (Mv.cs_one _) ?_))
     obtain ⟨r1, r2⟩ := (uh W1).b.done y.cs
     refine bodyPost_ret (results_row2 (P := Tryz.prog) rfl _ _ (w.heap.size + 1) 26 y.cs (0, 0) _ rfl r1 Tryz.underlying26 rfl (by kernel_rfl)) rfl ?_
     have e := uh E1
     exact ⟨y, _, rfl, by rw [e]; exact (uh W1).fl, by rw [e]; exact (uh W1).own.row (by omega) _, r2⟩
   ·
    obtain rfl : k = N := by omega
    have E1 := hide (show T = (t, st) by rw [hT.out, Nat.sub_self]; rfl)
    clear hw hT
    go_wp2_with (first | (refine wpList_load_row rfl 26 _ rfl w.heap.size rfl 26 y.cs (0, 0) _ (uh W1).b.bx Tryz.underlying26 rfl (by kernel_rfl) ?_) | (refine wpList_store_row rfl 26 _ _ rfl (w.heap.size + 1) y.cs rfl rfl 26 zMv.cs (uh W1).b.re (by kernel_rfl) rfl (Mv.cs_one _) ?_))
    obtain ⟨r1, r2⟩ := (uh W1).b.done y.cs
    refine bodyPost_ret (results_row2 (P := Tryz.prog) rfl _ _ (w.heap.size + 1) 26 y.cs (0, 0) _ rfl r1 Tryz.underlying26 rfl (by kernel_rfl)) rfl ?_
    have e := uh E1
    exact ⟨y, _, rfl, by rw [e]; exact (uh W1).fl, by rw [e]; exact (uh W1).own.row (by omega) _, r2⟩
def RnIs (x : Mv) (n : Int) (d2 : Md) (f2 : Bool × Bool × Bool × Bool × Int) (w : World) : Prop := Calls Tryz.prog 7 #[.agg x.cs, .int .i64 n] w fun e w' => ∃ y : Mv, e = .returned (.agg y.cs) ∧ y.fl = f2 ∧ OwnE w' (w.heap.size + 2) y d2 ∧ Below w.heap.size w w'
theorem runI_any (x : Mv) (d : Md) (n : Int) (w : World) (hs : x.small) (hz : x.nz) (hr : RdM w x d) (ht : Tab w) : RnIs x n ((x.ms d).rn x.st n).1.d (((x.ms d).rn x.st n).1.fl ((x.ms d).rn x.st n).2) w := by
 have B1 := hide (bst_new w x)
 have WL := hide (walk_any x d n _ hs hz (hr.later (uh B1).bel) (ht.later (uh B1).bel))
 unfold WlIs at WL
 unfold RnIs
 generalize ((x.ms d).rn x.st n).1.fl ((x.ms d).rn x.st n).2 = F2 at WL ⊢
 generalize ((x.ms d).rn x.st n).1.d = D2 at WL ⊢
 clear hs hz hr ht
 go_enter Tryz.func7, Tryz.ntmps7
 go_wp2_with (refine wpList_load_row rfl 26 _ rfl w.heap.size rfl 26 x.cs (0, 0) _ (uh B1).bx Tryz.underlying26 rfl (by kernel_rfl) ?_)
 refine (uh WL).mono ?_
 rintro e w2 ⟨y, k, rfl, fy, oy, hb⟩
 have FY := hide fy
 have B2 := hide (((uh B1).later hb).later (below_new w2 (.cells y.cs 26)))
 have O2 := hide ((oy.base (C := w.heap.size + 2) (by have := (uh B1).sz; omega)).later (below_new w2 (.cells y.cs 26)))
 have R2 := hide (heap_alloc_last w2 (.cells y.cs 26))
 clear fy oy hb WL B1
 go_wp2_with (first | (refine wpList_store_new rfl 26 _ _ rfl y.cs rfl rfl _ (by kernel_rfl) rfl (Mv.cs_one _) ?_) | (refine wpList_load_row rfl 26 _ rfl w2.heap.size rfl 26 y.cs (0, 0) _ (uh R2) Tryz.underlying26 rfl (by kernel_rfl) ?_) | (refine wpList_store_row rfl 26 _ _ rfl (w.heap.size + 1) y.cs rfl rfl 26 zMv.cs (uh B2).re (by kernel_rfl) rfl (Mv.cs_one _) ?_))
 obtain ⟨r1, r2⟩ := (uh B2).done y.cs
 refine bodyPost_ret (results_cell_row (P := Tryz.prog) rfl _ _ (w.heap.size + 1) 26 y.cs (0, 0) _ rfl r1 Tryz.underlying26 rfl (by kernel_rfl)) rfl ?_
 exact ⟨y, rfl, uh FY, (uh O2).row (by omega) _, r2⟩
end
def PsIs (B g mo re : Nat) (X : Int) (y : Mv) (t : Ms) (st : Int) (w : World) : Prop :=
 Calls Tryz.prog 31 #[.pointer (some ⟨g, 0, none⟩), .agg #[.int .i64 (mo : Int), .int .i64 (re : Int), .int .i64 X]] w fun e w' => e = .returned (.tuple #[.agg #[.int .i64 (t.d.plR mo re), .int .i64 (t.d.plA mo re)], .bool (t.d.plO mo re)]) ∧ Sm w' B g y (t.op mo re) st ∧ Fm w w' g y y
theorem plSm (B g mo re : Nat) (X : Int) (y : Mv) (t : Ms) (st : Int) (w : World) (h : Sm w B g y t st) (hk : Dk t.d) (h7 : mo ≤ 7) (hr : re < 8) : PsIs B g mo re X y t st w := by
 obtain ⟨gr, rc, er⟩ := h.regs hk.rl
 have P : Pm w g B gr rc y t.d := ⟨h.row, h.own, by rw [er, hk.rl], h.ne _ (at_r er)⟩
 have q := plS_any g B gr rc mo re X y t.d w P hk.r8 hr (h.small hk) (hk.getb _) h7
 unfold PlIs at q
 unfold PsIs
 exact q.mono fun e w' ⟨a, p, gw⟩ => ⟨a, ⟨p.row, p.own, h.fl, h.lo, h.ne⟩, Fm.grown gw (.inr (at_r er)) (fun k hk => hk)⟩
def DsE (g B : Nat) (y : Mv) (t2 : Ms) (st2 : Int) (ok : Bool) (w : World) (e : Ending) (w' : World) : Prop := ∃ y', e = .returned (.bool ok) ∧ AcE ok (Sm w' B g y' t2 st2) (Fm w w' g y y')
def DsIs (B g op sm sr dm dr : Nat) (sx dx n : Int) (y : Mv) (t : Ms) (st : Int) (w : World) : Prop :=
 Calls Tryz.prog 25 #[.pointer (some ⟨g, 0, none⟩), .agg #[.int .i64 (op : Int), .int .i64 (sm : Int), .int .i64 (sr : Int), .int .i64 sx, .int .i64 (dm : Int), .int .i64 (dr : Int), .int .i64 dx, .int .i64 n]] w (DsE g B y (t.dos op sm sr dm dr n) (doS op st) (t.doB op sm sr dm dr n) w)
theorem ds_two (B g op sm sr dm dr : Nat) (sx dx n : Int) (y : Mv) (t : Ms) (st : Int) (w : World) (h : Sm w B g y t st) (hk : Dk t.d) (h1 : 1 ≤ op) (h6 : op ≤ 6) (s7 : sm ≤ 7) (s8 : sr < 8) (d7 : dm ≤ 7) (d8 : dr < 8) : DsIs B g op sm sr dm dr sx dx n y t st w := by
 have GL := hide (show g < w.heap.size from row_lt h.row)
 have YL := hide (fun b (hb : y.at b) => (h.own.lo hb).2)
 have H1 := hide (h.later (below_new w (Obj.cells #[.int .i64 (op : Int), .int .i64 (sm : Int), .int .i64 (sr : Int), .int .i64 sx, .int .i64 (dm : Int), .int .i64 (dr : Int), .int .i64 dx, .int .i64 n] 48)))
 have F1 := hide (Fm.of (g := g) (y := y) (below_new w (Obj.cells #[.int .i64 (op : Int), .int .i64 (sm : Int), .int .i64 (sr : Int), .int .i64 sx, .int .i64 (dm : Int), .int .i64 (dr : Int), .int .i64 dx, .int .i64 n] 48)))
 have R1 := hide (heap_alloc_last w (Obj.cells #[.int .i64 (op : Int), .int .i64 (sm : Int), .int .i64 (sr : Int), .int .i64 sx, .int .i64 (dm : Int), .int .i64 (dr : Int), .int .i64 dx, .int .i64 n] 48))
 have o6 : (op : Int) ≤ 6 := by omega
 have P1 := hide (plSm B g sm sr sx y t st _ (uh H1) hk s7 s8)
 have K1 := dk_op hk sm sr
 have K2 := dk_op K1 dm dr
 have LD := hide (fun v (r : Sm v B g y (t.op sm sr) st) => loadS_any y (t.op sm sr).d (t.d.plR sm sr) (t.d.plA sm sr) v (r.small K1) r.own.rd)
 have P2 := hide (fun v (r : Sm v B g y (t.op sm sr) st) => plSm B g dm dr dx y (t.op sm sr) st v r K1 d7 d8)
 have TW := hide (fun v (r : Sm v B g y ((t.op sm sr).op dm dr) st) => two_any B g y ((t.op sm sr).op dm dr) st (t.opV sm sr) ((t.op sm sr).d.plR dm dr) ((t.op sm sr).d.plA dm dr) op ⟨h1, h6⟩ v r K2 (op_v hk sm sr))
 unfold PsIs at P1 P2
 unfold TwIs at TW
 rw [← show t.opV sm sr = (t.op sm sr).d.ldV (t.d.plR sm sr) (t.d.plA sm sr) from rfl] at LD
 unfold DsIs DsE
 rw [show t.dos op sm sr dm dr n = ((t.op sm sr).op dm dr).two op (t.opV sm sr) ((t.op sm sr).d.plR dm dr) ((t.op sm sr).d.plA dm dr) by unfold Ms.dos; rw [if_pos h6]]
 rw [show t.doB op sm sr dm dr n = ((t.d.plO sm sr && (t.op sm sr).d.ldB (t.d.plR sm sr) (t.d.plA sm sr)) && ((t.op sm sr).d.plO dm dr && ((t.op sm sr).op dm dr).d.ldB ((t.op sm sr).d.plR dm dr) ((t.op sm sr).d.plA dm dr))) by unfold Ms.doB Ms.woB Ms.sB Ms.sT; rw [if_pos (by omega), if_pos h6, if_pos h6]; rfl]
 rw [show doS op st = st by unfold doS; rw [if_neg (by omega)]]
 generalize ((t.op sm sr).op dm dr).two op (t.opV sm sr) ((t.op sm sr).d.plR dm dr) ((t.op sm sr).d.plA dm dr) = t3 at TW ⊢
 generalize ((t.op sm sr).op dm dr).d.ldB ((t.op sm sr).d.plR dm dr) ((t.op sm sr).d.plA dm dr) = b4 at TW ⊢
 generalize (t.op sm sr).op dm dr = t2 at P2 TW
 generalize (t.op sm sr).d.plR dm dr = qr at P2 TW
 generalize (t.op sm sr).d.plA dm dr = qa at P2 TW
 generalize (t.op sm sr).d.plO dm dr = b3 at P2 ⊢
 generalize (t.op sm sr).d.ldB (t.d.plR sm sr) (t.d.plA sm sr) = b2 at LD ⊢
 generalize t.opV sm sr = sv at LD TW
 generalize t.op sm sr = t1 at P1 P2 LD
 generalize t.d.plR sm sr = pr at P1 LD
 generalize t.d.plA sm sr = pa at P1 LD
 generalize t.d.plO sm sr = b1 at P1 ⊢
 clear h hk K1 K2
 have k0 := insR 0 _ (uh R1) rfl
 have k1 := insR 1 _ (uh R1) rfl
 have k2 := insR 2 _ (uh R1) rfl
 have k3 := insR 3 _ (uh R1) rfl
 go_enter Tryz.func25, Tryz.ntmps25
 go_wp2_with fail
 refine (uh P1).mono ?_
 rintro e w2 ⟨rfl, h2, f2⟩
 have R2 := hide (row_lat (f2.row (uh R1) (by have := uh GL; omega) (fun e => by have := uh YL _ e; omega)) (below_new w2 (Obj.cells #[.int .i64 pr, .int .i64 pa] 57)))
 have F2 := hide (((uh F1).trans f2).trans (Fm.of (below_new w2 (Obj.cells #[.int .i64 pr, .int .i64 pa] 57))))
 have H2 := hide (h2.later (below_new w2 (Obj.cells #[.int .i64 pr, .int .i64 pa] 57)))
 have Q2 := hide (heap_alloc_last w2 (Obj.cells #[.int .i64 pr, .int .i64 pa] 57))
 clear h2 f2 P1 k0 k1 k2 k3
 cases b1
 ·
  go_wp2_with (refine wpList_store_new rfl 57 _ _ rfl #[.int .i64 pr, .int .i64 pa] rfl rfl _ (by kernel_rfl) rfl rfl ?_)
  go_ret
  first | exact ⟨y, rfl, ⟨fun h => by simp at h, uh F2⟩⟩ | exact ⟨rfl, y, ⟨fun h => by simp at h, uh F2⟩⟩
 go_wp2_with (refine wpList_store_new rfl 57 _ _ rfl #[.int .i64 pr, .int .i64 pa] rfl rfl _ (by kernel_rfl) rfl rfl ?_)
 generalize w2.heap.size = pb at Q2 ⊢
 generalize w2.alloc (Obj.cells #[.int .i64 pr, .int .i64 pa] 57) = w3 at H2 F2 R2 Q2 ⊢
 have H3 := hide ((uh H2).later (below_drew (w := w3)))
 have F3 := hide ((uh F2).trans (Fm.of (below_drew (w := w3))))
 have R3 := hide (row_lat (uh R2) (below_drew (w := w3)))
 have HS := hide (And.intro (uh H3).row (row_lat (uh Q2) (below_drew (w := w3))))
 refine wp_region_last (fun v => v.heap[g]? = some (.cells y.cs 26 (0, 0)) ∧ v.heap[pb]? = some (.cells #[.int .i64 pr, .int .i64 pa] 57 (0, 0))) 9 (by kernel_rfl) ?_
 generalize w3.drew = wd at H3 F3 R3 HS ⊢
 clear H2 F2 R2 Q2
 refine twB 0 (.pointer (some ⟨g, 0, none⟩)) rfl (.inl (uh HS)) ?_
 go_simp
 refine twB 1 (.pointer (some ⟨g, 0, none⟩)) rfl (.inl (uh HS)) ?_
 go_simp
 refine tsA 2 (.agg y.cs) rfl (yields_loadQ (by rfl) 26 _ rfl g rfl 26 y.cs _ (fun w h => h.1) Tryz.underlying26 rfl (by kernel_rfl)) (uh HS) ?_
 go_simp
 refine tsA 3 (.agg #[.int .i64 pr, .int .i64 pa]) rfl (yields_loadQ (by rfl) 57 _ rfl pb rfl 57 #[.int .i64 pr, .int .i64 pa] _ (fun w h => h.2) Tryz.underlying57 rfl (by kernel_rfl)) (uh HS) ?_
 go_simp
 refine wpAnyL_one (i := 4) (by kernel_rfl) rfl (fun K2 hK => ?_)
 go_simp
 refine (uh LD _ (uh H3)).mono ?_
 rintro e w4 ⟨rfl, b4'⟩
 have H4 := hide ((uh H3).later b4')
 have F4 := hide ((uh F3).trans (Fm.of b4'))
 have R4 := hide (row_lat (uh R3) b4')
 have HS4 := hide (And.intro (uh H4).row (row_lat (uh HS).2 b4'))
 refine hK.out _ _ (fun _ => uh HS4) ?_
 clear hK K2 b4' LD HS H3 F3 R3
 have HS := hide (uh HS4)
 refine twB 5 (.tuple #[.int .i64 sv, .bool b2]) rfl (.inl (uh HS)) ?_
 go_simp
 refine twB 6 (.int .i64 sv) rfl (.inl (uh HS)) ?_
 go_simp
 refine twB 7 (.bool b2) rfl (.inl (uh HS)) ?_
 go_simp
 refine twB 8 (.int .i64 sv) rfl (.inl (uh HS)) ?_
 go_simp
 refine wpAnyL_one (i := 9) (by kernel_rfl) rfl (fun K2 hK => ?_)
 go_simp
 refine hK.out _ _ (fun h => absurd h (by decide)) ?_
 clear hK K2 HS HS4
 refine wpAnyL_done (by kernel_rfl) ?_ _
 cases b2
 ·
  go_wp2
  go_ret
  first | exact ⟨y, rfl, ⟨fun h => by simp at h, uh F4⟩⟩ | exact ⟨rfl, y, ⟨fun h => by simp at h, uh F4⟩⟩
 have k4 := insR 4 _ (uh R4) rfl
 have k5 := insR 5 _ (uh R4) rfl
 have k6 := insR 6 _ (uh R4) rfl
 have P3 := hide (uh P2 _ (uh H4))
 clear P2
 go_wp2_with fail
 refine (uh P3).mono ?_
 rintro e w5 ⟨rfl, h5, f5⟩
 have R5 := hide (row_lat (f5.row (uh R4) (by have := uh GL; omega) (fun e => by have := uh YL _ e; omega)) (below_new w5 (Obj.cells #[.int .i64 qr, .int .i64 qa] 57)))
 have F5 := hide (((uh F4).trans f5).trans (Fm.of (below_new w5 (Obj.cells #[.int .i64 qr, .int .i64 qa] 57))))
 have H5 := hide (h5.later (below_new w5 (Obj.cells #[.int .i64 qr, .int .i64 qa] 57)))
 have Q5 := hide (heap_alloc_last w5 (Obj.cells #[.int .i64 qr, .int .i64 qa] 57))
 have TW2 := hide (uh TW _ (uh H5))
 have k0 := insR 0 _ (uh R5) rfl
 clear h5 f5 P3 k4 k5 k6 TW
 cases b3
 ·
  go_wp2_with (refine wpList_store_new rfl 57 _ _ rfl #[.int .i64 qr, .int .i64 qa] rfl rfl _ (by kernel_rfl) rfl rfl ?_)
  go_ret
  first | exact ⟨y, rfl, ⟨fun h => by simp at h, uh F5⟩⟩ | exact ⟨rfl, y, ⟨fun h => by simp at h, uh F5⟩⟩
 go_wp2_with (first | (refine wpList_store_new rfl 57 _ _ rfl #[.int .i64 qr, .int .i64 qa] rfl rfl _ (by kernel_rfl) rfl rfl ?_) | (refine wpList_load_row rfl 57 _ rfl w5.heap.size rfl 57 #[.int .i64 qr, .int .i64 qa] (0, 0) _ (uh Q5) Tryz.underlying57 rfl (by kernel_rfl) ?_))
 refine (uh TW2).mono ?_
 rintro e w6 ⟨rfl, y6, h6', f6⟩
 have H6 := hide h6'
 have F6 := hide ((uh F5).trans f6)
 clear h6' f6 TW2
 go_wp2
 go_ret
 first | exact ⟨y6, rfl, ⟨fun ho => uh H6 (by simpa using ho), uh F6⟩⟩ | exact ⟨rfl, y6, ⟨fun ho => uh H6 (by simpa using ho), uh F6⟩⟩
theorem ds_one (B g op sm sr dm dr : Nat) (sx dx n : Int) (y : Mv) (t : Ms) (st : Int) (w : World) (h : Sm w B g y t st) (hk : Dk t.d) (h7 : 7 ≤ op) (h13 : op ≤ 13) (d7 : dm ≤ 7) (d8 : dr < 8) : DsIs B g op sm sr dm dr sx dx n y t st w := by
 have GL := hide (show g < w.heap.size from row_lt h.row)
 have YL := hide (fun b (hb : y.at b) => (h.own.lo hb).2)
 have H1 := hide (h.later (below_new w (Obj.cells #[.int .i64 (op : Int), .int .i64 (sm : Int), .int .i64 (sr : Int), .int .i64 sx, .int .i64 (dm : Int), .int .i64 (dr : Int), .int .i64 dx, .int .i64 n] 48)))
 have F1 := hide (Fm.of (g := g) (y := y) (below_new w (Obj.cells #[.int .i64 (op : Int), .int .i64 (sm : Int), .int .i64 (sr : Int), .int .i64 sx, .int .i64 (dm : Int), .int .i64 (dr : Int), .int .i64 dx, .int .i64 n] 48)))
 have R1 := hide (heap_alloc_last w (Obj.cells #[.int .i64 (op : Int), .int .i64 (sm : Int), .int .i64 (sr : Int), .int .i64 sx, .int .i64 (dm : Int), .int .i64 (dr : Int), .int .i64 dx, .int .i64 n] 48))
 have P1 := hide (plSm B g dm dr dx y t st _ (uh H1) hk d7 d8)
 have K1 := dk_op hk dm dr
 unfold PsIs at P1
 have o6 : ¬ (op : Int) ≤ 6 := by omega
 have o6' : (6 : Int) < (op : Int) := by omega
 have o15 : (op : Int) ≤ 15 := by omega
 have n14 : (op : Int) ≠ 14 := by omega
 have n15 : (op : Int) ≠ 15 := by omega
 have CT := hide (fun v (r : Sm v B g y (t.op dm dr) st) => one_any B g y (t.op dm dr) st (t.d.plR dm dr) (t.d.plA dm dr) op ⟨h7, h13⟩ v r K1)
 unfold OnIs at CT
 unfold DsIs DsE
 rw [show t.dos op sm sr dm dr n = (t.op dm dr).one op (t.d.plR dm dr) (t.d.plA dm dr) by unfold Ms.dos; rw [if_neg (by omega), if_pos h13]]
 rw [show t.doB op sm sr dm dr n = (t.d.plO dm dr && (t.op dm dr).d.ldB (t.d.plR dm dr) (t.d.plA dm dr)) by unfold Ms.doB Ms.woB Ms.sB Ms.sT; rw [if_pos h13, if_neg (by omega), if_neg (by omega), Bool.true_and]; rfl]
 rw [show doS op st = st by unfold doS; rw [if_neg (by omega)]]
 generalize (t.op dm dr).one op (t.d.plR dm dr) (t.d.plA dm dr) = t3 at CT ⊢
 generalize (t.op dm dr).d.ldB (t.d.plR dm dr) (t.d.plA dm dr) = b4 at CT ⊢
 generalize t.op dm dr = t2 at P1 CT
 generalize t.d.plO dm dr = b1 at P1 ⊢
 generalize t.d.plR dm dr = pr at P1 CT
 generalize t.d.plA dm dr = pa at P1 CT
 clear h hk K1
 have k0 := insR 0 _ (uh R1) rfl
 have k4 := insR 4 _ (uh R1) rfl
 have k5 := insR 5 _ (uh R1) rfl
 have k6 := insR 6 _ (uh R1) rfl
 go_enter Tryz.func25, Tryz.ntmps25
 go_wp2_with fail
 refine (uh P1).mono ?_
 rintro e w2 ⟨rfl, h2, f2⟩
 have R2 := hide (row_lat (f2.row (uh R1) (by have := uh GL; omega) (fun e => by have := uh YL _ e; omega)) (below_new w2 (Obj.cells #[.int .i64 pr, .int .i64 pa] 57)))
 have F2 := hide (((uh F1).trans f2).trans (Fm.of (below_new w2 (Obj.cells #[.int .i64 pr, .int .i64 pa] 57))))
 have H2 := hide (h2.later (below_new w2 (Obj.cells #[.int .i64 pr, .int .i64 pa] 57)))
 have Q2 := hide (heap_alloc_last w2 (Obj.cells #[.int .i64 pr, .int .i64 pa] 57))
 clear h2 f2 P1 k0 k4 k5 k6
 have k0 := insR 0 _ (uh R2) rfl
 have k7 := insR 7 _ (uh R2) rfl
 cases b1
 ·
  go_wp2_with (refine wpList_store_new rfl 57 _ _ rfl #[.int .i64 pr, .int .i64 pa] rfl rfl _ (by kernel_rfl) rfl rfl ?_)
  go_ret
  first | exact ⟨y, rfl, ⟨fun h => by simp at h, uh F2⟩⟩ | exact ⟨rfl, y, ⟨fun h => by simp at h, uh F2⟩⟩
 have CC := hide (uh CT _ (uh H2))
 clear CT
 go_wp2_with (first | (refine wpList_store_new rfl 57 _ _ rfl #[.int .i64 pr, .int .i64 pa] rfl rfl _ (by kernel_rfl) rfl rfl ?_) | (refine wpList_load_row rfl 57 _ rfl w2.heap.size rfl 57 #[.int .i64 pr, .int .i64 pa] (0, 0) _ (uh Q2) Tryz.underlying57 rfl (by kernel_rfl) ?_))
 refine (uh CC).mono ?_
 rintro e w6 ⟨rfl, y6, h6', f6⟩
 have H6 := hide h6'
 have F6 := hide ((uh F2).trans f6)
 clear h6' f6 CC
 go_wp2
 go_ret
 first | exact ⟨y6, rfl, ⟨fun ho => uh H6 (by simpa using ho), uh F6⟩⟩ | exact ⟨rfl, y6, ⟨fun ho => uh H6 (by simpa using ho), uh F6⟩⟩
theorem ds_jmp (B g sm sr dm dr : Nat) (sx dx n : Int) (y : Mv) (t : Ms) (st : Int) (w : World) (h : Sm w B g y t st) (hk : Dk t.d) (d7 : dm ≤ 7) (d8 : dr < 8) : DsIs B g 14 sm sr dm dr sx dx n y t st w := by
 have GL := hide (show g < w.heap.size from row_lt h.row)
 have YL := hide (fun b (hb : y.at b) => (h.own.lo hb).2)
 have H1 := hide (h.later (below_new w (Obj.cells #[.int .i64 14, .int .i64 (sm : Int), .int .i64 (sr : Int), .int .i64 sx, .int .i64 (dm : Int), .int .i64 (dr : Int), .int .i64 dx, .int .i64 n] 48)))
 have F1 := hide (Fm.of (g := g) (y := y) (below_new w (Obj.cells #[.int .i64 14, .int .i64 (sm : Int), .int .i64 (sr : Int), .int .i64 sx, .int .i64 (dm : Int), .int .i64 (dr : Int), .int .i64 dx, .int .i64 n] 48)))
 have R1 := hide (heap_alloc_last w (Obj.cells #[.int .i64 14, .int .i64 (sm : Int), .int .i64 (sr : Int), .int .i64 sx, .int .i64 (dm : Int), .int .i64 (dr : Int), .int .i64 dx, .int .i64 n] 48))
 have P1 := hide (plSm B g dm dr dx y t st _ (uh H1) hk d7 d8)
 have K1 := dk_op hk dm dr
 unfold PsIs at P1
 have CT := hide (show ∀ v, Sm v B g y (t.op dm dr) st → GoIs B g y (t.op dm dr) ((t.op dm dr).rg 7 (t.d.plA dm dr)) st (t.d.plR dm dr) (t.d.plA dm dr) (-1) (t.d.plR dm dr == -1) v from fun v r => by
  by_cases hq : t.d.plR dm dr = -1
  ·
   rw [hq]
   exact go_j B g y (t.op dm dr) st (t.d.plA dm dr) v r K1
  ·
   rw [beq_false_of_ne hq]
   exact go_no B g y (t.op dm dr) _ st _ _ _ v r hq)
 unfold GoIs at CT
 unfold DsIs DsE
 rw [show t.dos 14 sm sr dm dr n = (t.op dm dr).rg 7 (t.d.plA dm dr) from rfl]
 rw [show t.doB 14 sm sr dm dr n = (t.d.plO dm dr && (t.d.plR dm dr == -1)) from rfl]
 rw [show doS 14 st = st from rfl]
 generalize (t.op dm dr).rg 7 (t.d.plA dm dr) = t3 at CT ⊢
 generalize (t.d.plR dm dr == -1) = b4 at CT ⊢
 generalize t.op dm dr = t2 at P1 CT
 generalize t.d.plO dm dr = b1 at P1 ⊢
 generalize t.d.plR dm dr = pr at P1 CT
 generalize t.d.plA dm dr = pa at P1 CT
 clear h hk K1
 have k0 := insR 0 _ (uh R1) rfl
 have k4 := insR 4 _ (uh R1) rfl
 have k5 := insR 5 _ (uh R1) rfl
 have k6 := insR 6 _ (uh R1) rfl
 go_enter Tryz.func25, Tryz.ntmps25
 go_wp2_with fail
 refine (uh P1).mono ?_
 rintro e w2 ⟨rfl, h2, f2⟩
 have R2 := hide (row_lat (f2.row (uh R1) (by have := uh GL; omega) (fun e => by have := uh YL _ e; omega)) (below_new w2 (Obj.cells #[.int .i64 pr, .int .i64 pa] 57)))
 have F2 := hide (((uh F1).trans f2).trans (Fm.of (below_new w2 (Obj.cells #[.int .i64 pr, .int .i64 pa] 57))))
 have H2 := hide (h2.later (below_new w2 (Obj.cells #[.int .i64 pr, .int .i64 pa] 57)))
 have Q2 := hide (heap_alloc_last w2 (Obj.cells #[.int .i64 pr, .int .i64 pa] 57))
 clear h2 f2 P1 k0 k4 k5 k6
 have k0 := insR 0 _ (uh R2) rfl
 have k7 := insR 7 _ (uh R2) rfl
 cases b1
 ·
  go_wp2_with (refine wpList_store_new rfl 57 _ _ rfl #[.int .i64 pr, .int .i64 pa] rfl rfl _ (by kernel_rfl) rfl rfl ?_)
  go_ret
  first | exact ⟨y, rfl, ⟨fun h => by simp at h, uh F2⟩⟩ | exact ⟨rfl, y, ⟨fun h => by simp at h, uh F2⟩⟩
 have CC := hide (uh CT _ (uh H2))
 clear CT
 go_wp2_with (first | (refine wpList_store_new rfl 57 _ _ rfl #[.int .i64 pr, .int .i64 pa] rfl rfl _ (by kernel_rfl) rfl rfl ?_) | (refine wpList_load_row rfl 57 _ rfl w2.heap.size rfl 57 #[.int .i64 pr, .int .i64 pa] (0, 0) _ (uh Q2) Tryz.underlying57 rfl (by kernel_rfl) ?_))
 refine (uh CC).mono ?_
 rintro e w6 ⟨rfl, y6, h6', f6⟩
 have H6 := hide h6'
 have F6 := hide ((uh F2).trans f6)
 clear h6' f6 CC
 go_wp2
 go_ret
 first | exact ⟨y6, rfl, ⟨fun ho => uh H6 (by simpa using ho), uh F6⟩⟩ | exact ⟨rfl, y6, ⟨fun ho => uh H6 (by simpa using ho), uh F6⟩⟩
theorem ds_jsr (B g sm sr dm dr : Nat) (sx dx : Int) (k : Nat) (y : Mv) (t : Ms) (st : Int) (w : World) (h : Sm w B g y t st) (hk : Dk t.d) (k8 : k < 8) (d7 : dm ≤ 7) (d8 : dr < 8) : DsIs B g 15 sm sr dm dr sx dx (k : Int) y t st w := by
 have GL := hide (show g < w.heap.size from row_lt h.row)
 have YL := hide (fun b (hb : y.at b) => (h.own.lo hb).2)
 have H1 := hide (h.later (below_new w (Obj.cells #[.int .i64 15, .int .i64 (sm : Int), .int .i64 (sr : Int), .int .i64 sx, .int .i64 (dm : Int), .int .i64 (dr : Int), .int .i64 dx, .int .i64 (k : Int)] 48)))
 have F1 := hide (Fm.of (g := g) (y := y) (below_new w (Obj.cells #[.int .i64 15, .int .i64 (sm : Int), .int .i64 (sr : Int), .int .i64 sx, .int .i64 (dm : Int), .int .i64 (dr : Int), .int .i64 dx, .int .i64 (k : Int)] 48)))
 have R1 := hide (heap_alloc_last w (Obj.cells #[.int .i64 15, .int .i64 (sm : Int), .int .i64 (sr : Int), .int .i64 sx, .int .i64 (dm : Int), .int .i64 (dr : Int), .int .i64 dx, .int .i64 (k : Int)] 48))
 have P1 := hide (plSm B g dm dr dx y t st _ (uh H1) hk d7 d8)
 have K1 := dk_op hk dm dr
 unfold PsIs at P1
 have CT := hide (show ∀ v, Sm v B g y (t.op dm dr) st → GoIs B g y (t.op dm dr) ((t.op dm dr).call k (t.d.plA dm dr)) st (t.d.plR dm dr) (t.d.plA dm dr) (k : Int) ((t.d.plR dm dr == -1) && (t.op dm dr).go1.d.ldB (-1) ((nAt (t.op dm dr).d.r 6 - 2) % 65536)) v from fun v r => by
  by_cases hq : t.d.plR dm dr = -1
  ·
   rw [hq]
   exact go_any B g k y (t.op dm dr) st (t.d.plA dm dr) v r K1 k8
  ·
   rw [beq_false_of_ne hq, Bool.false_and]
   exact go_no B g y (t.op dm dr) _ st _ _ _ v r hq)
 unfold GoIs at CT
 unfold DsIs DsE
 rw [show t.dos 15 sm sr dm dr (k : Int) = (t.op dm dr).call k (t.d.plA dm dr) from rfl]
 rw [show t.doB 15 sm sr dm dr (k : Int) = (t.d.plO dm dr && ((t.d.plR dm dr == -1) && (t.op dm dr).go1.d.ldB (-1) ((nAt (t.op dm dr).d.r 6 - 2) % 65536))) by unfold Ms.doB clO tgO; rw [Bool.and_assoc]; rfl]
 rw [show doS 15 st = st from rfl]
 generalize (t.op dm dr).call k (t.d.plA dm dr) = t3 at CT ⊢
 generalize ((t.d.plR dm dr == -1) && (t.op dm dr).go1.d.ldB (-1) ((nAt (t.op dm dr).d.r 6 - 2) % 65536)) = b4 at CT ⊢
 generalize t.op dm dr = t2 at P1 CT
 generalize t.d.plO dm dr = b1 at P1 ⊢
 generalize t.d.plR dm dr = pr at P1 CT
 generalize t.d.plA dm dr = pa at P1 CT
 clear h hk K1
 have k0 := insR 0 _ (uh R1) rfl
 have k4 := insR 4 _ (uh R1) rfl
 have k5 := insR 5 _ (uh R1) rfl
 have k6 := insR 6 _ (uh R1) rfl
 go_enter Tryz.func25, Tryz.ntmps25
 go_wp2_with fail
 refine (uh P1).mono ?_
 rintro e w2 ⟨rfl, h2, f2⟩
 have R2 := hide (row_lat (f2.row (uh R1) (by have := uh GL; omega) (fun e => by have := uh YL _ e; omega)) (below_new w2 (Obj.cells #[.int .i64 pr, .int .i64 pa] 57)))
 have F2 := hide (((uh F1).trans f2).trans (Fm.of (below_new w2 (Obj.cells #[.int .i64 pr, .int .i64 pa] 57))))
 have H2 := hide (h2.later (below_new w2 (Obj.cells #[.int .i64 pr, .int .i64 pa] 57)))
 have Q2 := hide (heap_alloc_last w2 (Obj.cells #[.int .i64 pr, .int .i64 pa] 57))
 clear h2 f2 P1 k0 k4 k5 k6
 have k0 := insR 0 _ (uh R2) rfl
 have k7 := insR 7 _ (uh R2) rfl
 cases b1
 ·
  go_wp2_with (refine wpList_store_new rfl 57 _ _ rfl #[.int .i64 pr, .int .i64 pa] rfl rfl _ (by kernel_rfl) rfl rfl ?_)
  go_ret
  first | exact ⟨y, rfl, ⟨fun h => by simp at h, uh F2⟩⟩ | exact ⟨rfl, y, ⟨fun h => by simp at h, uh F2⟩⟩
 have CC := hide (uh CT _ (uh H2))
 clear CT
 go_wp2_with (first | (refine wpList_store_new rfl 57 _ _ rfl #[.int .i64 pr, .int .i64 pa] rfl rfl _ (by kernel_rfl) rfl rfl ?_) | (refine wpList_load_row rfl 57 _ rfl w2.heap.size rfl 57 #[.int .i64 pr, .int .i64 pa] (0, 0) _ (uh Q2) Tryz.underlying57 rfl (by kernel_rfl) ?_))
 refine (uh CC).mono ?_
 rintro e w6 ⟨rfl, y6, h6', f6⟩
 have H6 := hide h6'
 have F6 := hide ((uh F2).trans f6)
 clear h6' f6 CC
 go_wp2
 go_ret
 first | exact ⟨y6, rfl, ⟨fun ho => uh H6 (by simpa using ho), uh F6⟩⟩ | exact ⟨rfl, y6, ⟨fun ho => uh H6 (by simpa using ho), uh F6⟩⟩
theorem ds_rts (B g sm sr dm dr : Nat) (sx dx : Int) (k : Nat) (y : Mv) (t : Ms) (st : Int) (w : World) (h : Sm w B g y t st) (hk : Dk t.d) (k8 : k < 8) : DsIs B g 16 sm sr dm dr sx dx (k : Int) y t st w := by
 have GL := hide (show g < w.heap.size from row_lt h.row)
 have YL := hide (fun b (hb : y.at b) => (h.own.lo hb).2)
 have H1 := hide (h.later (below_new w (Obj.cells #[.int .i64 16, .int .i64 (sm : Int), .int .i64 (sr : Int), .int .i64 sx, .int .i64 (dm : Int), .int .i64 (dr : Int), .int .i64 dx, .int .i64 (k : Int)] 48)))
 have F1 := hide (Fm.of (g := g) (y := y) (below_new w (Obj.cells #[.int .i64 16, .int .i64 (sm : Int), .int .i64 (sr : Int), .int .i64 sx, .int .i64 (dm : Int), .int .i64 (dr : Int), .int .i64 dx, .int .i64 (k : Int)] 48)))
 have R1 := hide (heap_alloc_last w (Obj.cells #[.int .i64 16, .int .i64 (sm : Int), .int .i64 (sr : Int), .int .i64 sx, .int .i64 (dm : Int), .int .i64 (dr : Int), .int .i64 dx, .int .i64 (k : Int)] 48))
 have CC := hide (back_any B g k y t st _ (uh H1) hk k8)
 unfold BkIs at CC
 unfold DsIs DsE
 rw [show t.dos 16 sm sr dm dr (k : Int) = t.back k from rfl]
 rw [show t.doB 16 sm sr dm dr (k : Int) = (t.back1 k).d.has (nAt t.d.r 6) from rfl]
 rw [show doS 16 st = st from rfl]
 generalize t.back k = t3 at CC ⊢
 generalize (t.back1 k).d.has (nAt t.d.r 6) = b4 at CC ⊢
 clear h hk
 have k0 := insR 0 _ (uh R1) rfl
 have k7 := insR 7 _ (uh R1) rfl
 go_enter Tryz.func25, Tryz.ntmps25
 go_wp2_with fail
 refine (uh CC).mono ?_
 rintro e w6 ⟨rfl, h6', f6⟩
 have H6 := hide h6'
 have F6 := hide ((uh F1).trans f6)
 clear h6' f6 CC
 go_wp2
 go_ret
 first | exact ⟨y, rfl, ⟨fun ho => uh H6 (by simpa using ho), uh F6⟩⟩ | exact ⟨rfl, y, ⟨fun ho => uh H6 (by simpa using ho), uh F6⟩⟩
theorem ds_br (B g op sm sr dm dr : Nat) (sx dx n : Int) (y : Mv) (t : Ms) (st : Int) (w : World) (h : Sm w B g y t st) (hk : Dk t.d) (h17 : 17 ≤ op) (h21 : op ≤ 21) (hn : -1000 ≤ n ∧ n ≤ 1000) : DsIs B g op sm sr dm dr sx dx n y t st w := by
 have GL := hide (show g < w.heap.size from row_lt h.row)
 have YL := hide (fun b (hb : y.at b) => (h.own.lo hb).2)
 have H1 := hide (h.later (below_new w (Obj.cells #[.int .i64 (op : Int), .int .i64 (sm : Int), .int .i64 (sr : Int), .int .i64 sx, .int .i64 (dm : Int), .int .i64 (dr : Int), .int .i64 dx, .int .i64 n] 48)))
 have F1 := hide (Fm.of (g := g) (y := y) (below_new w (Obj.cells #[.int .i64 (op : Int), .int .i64 (sm : Int), .int .i64 (sr : Int), .int .i64 sx, .int .i64 (dm : Int), .int .i64 (dr : Int), .int .i64 dx, .int .i64 n] 48)))
 have R1 := hide (heap_alloc_last w (Obj.cells #[.int .i64 (op : Int), .int .i64 (sm : Int), .int .i64 (sr : Int), .int .i64 sx, .int .i64 (dm : Int), .int .i64 (dr : Int), .int .i64 dx, .int .i64 n] 48))
 have o6 : ¬ (op : Int) ≤ 6 := by omega
 have o15 : ¬ (op : Int) ≤ 15 := by omega
 have n16 : (op : Int) ≠ 16 := by omega
 have o21 : (op : Int) ≤ 21 := by omega
 have CC := hide (branch_any B g y t st (sm : Int) (sr : Int) sx (dm : Int) (dr : Int) dx n op ⟨h17, h21⟩ _ (uh H1) hk hn)
 unfold BrIs at CC
 unfold DsIs DsE
 rw [show t.dos op sm sr dm dr n = t.branch op n by unfold Ms.dos; rw [if_neg (by omega), if_neg (by omega), if_neg (by omega), if_neg (by omega), if_neg (by omega), if_pos h21]]
 rw [show t.doB op sm sr dm dr n = true by unfold Ms.doB; rw [if_neg (by omega), if_neg (by omega), if_neg (by omega), if_neg (by omega), if_pos (by omega)]]
 rw [show doS op st = st by unfold doS; rw [if_neg (by omega)]]
 generalize t.branch op n = t3 at CC ⊢
 clear h hk
 have k0 := insR 0 _ (uh R1) rfl
 go_enter Tryz.func25, Tryz.ntmps25
 go_wp2_with (refine wpList_load_row rfl 48 _ rfl w.heap.size rfl 48 #[.int .i64 (op : Int), .int .i64 (sm : Int), .int .i64 (sr : Int), .int .i64 sx, .int .i64 (dm : Int), .int .i64 (dr : Int), .int .i64 dx, .int .i64 n] (0, 0) _ (uh R1) Tryz.underlying48 rfl (by kernel_rfl) ?_)
 refine (uh CC).mono ?_
 rintro e w6 ⟨rfl, h6', f6⟩
 have H6 := hide h6'
 have F6 := hide ((uh F1).trans f6)
 clear h6' f6 CC
 go_wp2
 go_ret
 first | exact ⟨y, rfl, ⟨fun _ => uh H6, uh F6⟩⟩ | exact ⟨rfl, y, ⟨fun _ => uh H6, uh F6⟩⟩
theorem Sm.setS {w : World} {B g : Nat} {y : Mv} {t : Ms} {st : Int} (h : Sm w B g y t st) (s : Int) : Sm (w.setCell ⟨g, 8, none⟩ (.int .i64 s)) B g { y with st := s } t s ∧ Fm w (w.setCell ⟨g, 8, none⟩ (.int .i64 s)) g y { y with st := s } :=
 ⟨h.setF 8 (.int .i64 s) { y with st := s } t s rfl rfl rfl rfl rfl rfl (by have := h.fl; unfold Mv.fl Ms.fl at *; simp at *; exact ⟨this.1, this.2.1, this.2.2.1, this.2.2.2.1⟩), Fm.grown (grownBy_set (b := g) (o := 8) (.int .i64 s)) (.inl rfl) (fun k hk => hk)⟩
theorem ds_halt (B g sm sr dm dr : Nat) (sx dx n : Int) (y : Mv) (t : Ms) (st : Int) (w : World) (h : Sm w B g y t st) (hk : Dk t.d) : DsIs B g 22 sm sr dm dr sx dx n y t st w := by
 have GL := hide (show g < w.heap.size from row_lt h.row)
 have YL := hide (fun b (hb : y.at b) => (h.own.lo hb).2)
 have H1 := hide (h.later (below_new w (Obj.cells #[.int .i64 22, .int .i64 (sm : Int), .int .i64 (sr : Int), .int .i64 sx, .int .i64 (dm : Int), .int .i64 (dr : Int), .int .i64 dx, .int .i64 n] 48)))
 have F1 := hide (Fm.of (g := g) (y := y) (below_new w (Obj.cells #[.int .i64 22, .int .i64 (sm : Int), .int .i64 (sr : Int), .int .i64 sx, .int .i64 (dm : Int), .int .i64 (dr : Int), .int .i64 dx, .int .i64 n] 48)))
 have R1 := hide (heap_alloc_last w (Obj.cells #[.int .i64 22, .int .i64 (sm : Int), .int .i64 (sr : Int), .int .i64 sx, .int .i64 (dm : Int), .int .i64 (dr : Int), .int .i64 dx, .int .i64 n] 48))
 have c8 := row_st (uh H1).row
 have e8 := row_fz (uh H1).row 8
 obtain ⟨h2, f2⟩ := (uh H1).setS 1
 have H2 := hide h2
 have F2 := hide ((uh F1).trans f2)
 unfold DsIs DsE
 rw [show t.dos 22 sm sr dm dr n = t from rfl, show t.doB 22 sm sr dm dr n = true from rfl, show doS 22 st = 1 from rfl]
 have k0 := insR 0 _ (uh R1) rfl
 clear h hk h2 f2
 go_enter Tryz.func25, Tryz.ntmps25
 go_wp2
 go_ret
 first | exact ⟨_, rfl, ⟨fun _ => uh H2, uh F2⟩⟩ | exact ⟨rfl, _, ⟨fun _ => uh H2, uh F2⟩⟩
theorem ds_emt (B g sm sr dm dr : Nat) (sx dx n : Int) (y : Mv) (t : Ms) (st : Int) (w : World) (h : Sm w B g y t st) (hk : Dk t.d) : DsIs B g 23 sm sr dm dr sx dx n y t st w := by
 have GL := hide (show g < w.heap.size from row_lt h.row)
 have YL := hide (fun b (hb : y.at b) => (h.own.lo hb).2)
 have H1 := hide (h.later (below_new w (Obj.cells #[.int .i64 23, .int .i64 (sm : Int), .int .i64 (sr : Int), .int .i64 sx, .int .i64 (dm : Int), .int .i64 (dr : Int), .int .i64 dx, .int .i64 n] 48)))
 have F1 := hide (Fm.of (g := g) (y := y) (below_new w (Obj.cells #[.int .i64 23, .int .i64 (sm : Int), .int .i64 (sr : Int), .int .i64 sx, .int .i64 (dm : Int), .int .i64 (dr : Int), .int .i64 dx, .int .i64 n] 48)))
 have R1 := hide (heap_alloc_last w (Obj.cells #[.int .i64 23, .int .i64 (sm : Int), .int .i64 (sr : Int), .int .i64 sx, .int .i64 (dm : Int), .int .i64 (dr : Int), .int .i64 dx, .int .i64 n] 48))
 have CC := hide (emt_any B g y t st n _ (uh H1) hk)
 unfold EmIs at CC
 unfold DsIs DsE
 rw [show t.dos 23 sm sr dm dr n = t.emt n from rfl, show t.doB 23 sm sr dm dr n = t.emtB n from rfl, show doS 23 st = st from rfl]
 generalize t.emt n = t3 at CC ⊢
 generalize t.emtB n = b4 at CC ⊢
 clear h hk
 have k0 := insR 0 _ (uh R1) rfl
 have k7 := insR 7 _ (uh R1) rfl
 go_enter Tryz.func25, Tryz.ntmps25
 go_wp2_with fail
 refine (uh CC).mono ?_
 rintro e w6 ⟨rfl, y6, h6', f6⟩
 have H6 := hide h6'
 have F6 := hide ((uh F1).trans f6)
 clear h6' f6 CC
 go_wp2
 go_ret
 first | exact ⟨y6, rfl, ⟨fun ho => uh H6 (by simpa using ho), uh F6⟩⟩ | exact ⟨rfl, y6, ⟨fun ho => uh H6 (by simpa using ho), uh F6⟩⟩
theorem ds_any (B g op sm sr dm dr : Nat) (sx dx n : Int) (y : Mv) (t : Ms) (st : Int) (w : World) (h : Sm w B g y t st) (hk : Dk t.d) (hi : InsN op sm sr dm dr n) : DsIs B g op sm sr dm dr sx dx n y t st w := by
 have := hi.lo
 have := hi.hi
 by_cases h6 : op ≤ 6
 ·
  have a := hi.src h6
  have b := hi.dst (by omega)
  exact ds_two B g op sm sr dm dr sx dx n y t st w h hk hi.lo h6 a.1 a.2 b.1 b.2
 by_cases h13 : op ≤ 13
 ·
  have b := hi.dst (by omega)
  exact ds_one B g op sm sr dm dr sx dx n y t st w h hk (by omega) h13 b.1 b.2
 by_cases h14 : op = 14
 ·
  subst h14
  have b := hi.dst (by omega)
  exact ds_jmp B g sm sr dm dr sx dx n y t st w h hk b.1 b.2
 by_cases h15 : op = 15
 ·
  subst h15
  have b := hi.dst (by omega)
  have r := hi.reg (.inl rfl)
  obtain ⟨k, rfl⟩ := Int.eq_ofNat_of_zero_le r.1
  exact ds_jsr B g sm sr dm dr sx dx k y t st w h hk (by omega) b.1 b.2
 by_cases h16 : op = 16
 ·
  subst h16
  have r := hi.reg (.inr rfl)
  obtain ⟨k, rfl⟩ := Int.eq_ofNat_of_zero_le r.1
  exact ds_rts B g sm sr dm dr sx dx k y t st w h hk (by omega)
 by_cases h21 : op ≤ 21
 · exact ds_br B g op sm sr dm dr sx dx n y t st w h hk (by omega) h21 (hi.bra (by omega))
 by_cases h22 : op = 22
 ·
  subst h22
  exact ds_halt B g sm sr dm dr sx dx n y t st w h hk
 ·
  have h23 : op = 23 := by omega
  subst h23
  exact ds_emt B g sm sr dm dr sx dx n y t st w h hk
end Go.Proofs.YtboedaofbchdkaaGreatDoor
