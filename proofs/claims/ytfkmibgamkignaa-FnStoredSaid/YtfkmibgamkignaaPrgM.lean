/- What is stored in a place: the program's answer, where there are no more registers than eight; over this seat's translation; conditions stand as hypotheses of each. -/
import Derived.Test.YtfkmibgamkignaaPrgL
namespace Go.Proofs.Ytfkmibgamkignaa
open Go.ChangeShapes Go.WideShapes Go.ChangeAt Go.RowKit
set_option linter.unusedVariables false
set_option maxRecDepth 8000
set_option linter.unusedSimpArgs false

set_option maxHeartbeats 8000000 in
theorem storeI_any (x : Mv) (d : Md) (r a n : Int) (w : World) (hs : x.small) (hz : x.nz) (hr : RdM w x d) (h8 : d.r.length ≤ 8) :
    Calls Try.prog 29 #[.agg x.cs, .agg #[.int .i64 r, .int .i64 a], .int .i64 n] w fun e w' => ∃ y : Mv, e = .returned (.tuple #[.agg y.cs, .bool (d.ldB r a)]) ∧ y.fl = x.fl ∧ OwnM w' (w.heap.size + 3) y (d.stD r a n) ∧ Below w.heap.size w w' := by
  have B := hide (bs_new w x r a)
  have X0 := hide (hr.later (unhide B).bel)
  have M := hide (machineOf_any x d _ hs hz (unhide X0))
  have S := hide hs
  have H8 := hide h8
  obtain ⟨q, hq⟩ : ∃ q, d.ldB r a = q := ⟨_, rfl⟩
  obtain ⟨D, hD⟩ : ∃ q, d.stD r a n = q := ⟨_, rfl⟩
  rw [hq, hD]
  have HQ := hide hq
  have HD := hide hD
  have WR := hide (fun w => wrapI_any n w)
  clear hr hs hz h8 hq hD
  go_enter Try.func29, Try.ntmps29
  go_wp2_with (refine wpList_load_row rfl 28 _ rfl w.heap.size rfl 28 x.cs (0, 0) _ (unhide B).bx Try.underlying28 rfl (by kernel_rfl) ?_)
  refine (unhide M).mono ?_
  rintro e w1 ⟨y, rfl, fy, oy, hb⟩
  have oy := oy.base (C := w.heap.size + 3) (by have := (unhide B).sz; omega)
  have FY := hide fy
  have SY := hide (small_of (unhide X0) oy.rd (unhide S))
  have B1 := hide (((unhide B).later hb).later (below_new w1 (.cells (bigA (laidM d.m z256) y) 80)))
  have Z1 := hide (((unhide B).later hb).sz)
  have G1 := hide (heap_alloc_last w1 (.cells (bigA (laidM d.m z256) y) 80))
  have O0 := hide oy
  have O1 := hide (oy.later (below_new w1 (.cells (bigA (laidM d.m z256) y) 80)))
  obtain ⟨gr, rc, er⟩ := reg_form w1.heap.size oy
  have RE := hide (reach_any w1.heap.size gr rc r a (laidM d.m z256) y d _ (laidM_len z256_len) (unhide G1) oy.rd.ml oy.rd.rl (unhide SY) er)
  have ER := hide er
  clear fy oy hb M X0 B er
  go_wp2_with (first | (refine wpList_alloc60 rfl rfl ?_) | (refine wpList_store60 rfl _ _ rfl (laidM d.m z256) y (laidM_len z256_len) rfl rfl ?_) | (refine wpList_load_row rfl 44 _ rfl (w.heap.size + 1) rfl 44 #[.int .i64 r, .int .i64 a] (0, 0) _ (unhide B1).bp Try.underlying44 rfl (by kernel_rfl) ?_))
  rcases rch_cases w1.heap.size gr d r a (unhide H8) with ⟨k, er1, ea, hk, e1, e2, e3⟩ | ⟨er1, hh, e1, e2, e3⟩ | ⟨e1, e2, e3⟩
  · rw [e1] at RE
    have hq := (unhide HQ).symm.trans e2
    have hD := (unhide HD).symm.trans (show d.stD r a n = ⟨d.m, d.r.set k (n % 65536), d.i, d.o⟩ by unfold Md.stD; rw [if_neg (by omega), if_pos e2, er1]; rfl)
    clear HQ HD
    subst hq hD
    refine (unhide RE).mono ?_
    rintro e w2 ⟨rfl, hb⟩
    obtain ⟨o3, g3, lo, lt, c1, c2⟩ := own_setR ((unhide O1).later hb) (unhide ER (by omega)) k (n % 65536) hk
    have B3 := hide (((unhide B1).later hb).past g3 (fun b e => by cases e; exact lo))
    have hne : gr ≠ w1.heap.size := by have := own_rlt (unhide O0) (unhide ER (by omega)); omega
    have R3 := hide (row_past (row_lat (unhide G1) hb) g3 hne)
    have A := hide (answer_any w1.heap.size (w.heap.size + 3) (laidM d.m z256) y ⟨d.m, d.r.set k (n % 65536), d.i, d.o⟩ _ (laidM_len z256_len) (unhide R3) o3 (own_ne (unhide O0).m (.inr (Nat.le_refl _))))
    rw [back_same] at A
    have OM := hide (fun b (e : y.m.v.ownBlock = some b) => (o3.m.lt e).1)
    generalize ht : n % 65536 = t at WR A R3 B3 OM ⊢
    have HT := hide ht
    clear ht
    clear hb e1 e2 e3 ea er1 o3 g3 lo lt
    go_wp2_with (first | (go_at_call 21; refine (unhide WR _).mono ?_; rintro e w' ⟨rfl, hw'⟩; rw [hw']; clear hw' w'))
    refine (unhide A).mono ?_
    rintro e w4 ⟨rfl, o4, g4⟩
    have B4 := hide ((unhide B3).past g4 (fun b e => unhide OM b e))
    have O4 := hide o4
    clear o4 g4 A
    go_wp2_with (refine wpList_store_row rfl 28 _ _ rfl (w.heap.size + 1 + 1) y.cs rfl rfl 28 zMv.cs (unhide B4).re (by kernel_rfl) rfl (Mv.cs_one _) ?_)
    refine bodyPost_ret (results_row2 (P := Try.prog) rfl _ _ (w.heap.size + 1 + 1) 28 y.cs (0, 0) _ rfl (setRow_heap w4 _ _ _ 28 _ (unhide B4).re) Try.underlying28 rfl (by kernel_rfl)) rfl ?_
    have ht := unhide HT
    subst ht
    exact ⟨y, rfl, unhide FY, (unhide O4).row (g := w.heap.size + 1 + 1) (by omega) _, below_setRow (unhide B4).bel (by omega) _⟩
  · rw [e1] at RE
    obtain ⟨ta, tl⟩ := has_t hh
    obtain ⟨t0, t1, _⟩ := adB_t ta
    have hq := (unhide HQ).symm.trans e2
    have hD := (unhide HD).symm.trans (show d.stD r a n = ⟨d.m.set (a / 2).toNat (n % 65536), d.r, d.i, d.o⟩ by unfold Md.stD Md.put; rw [if_pos er1, if_pos hh])
    clear HQ HD
    subst hq hD
    refine (unhide RE).mono ?_
    rintro e w2 ⟨rfl, hb⟩
    have hka : (a / 2).toNat < 256 := by omega
    have hkl : (a / 2).toNat < d.m.length := by omega
    have g2 := row_lat (unhide G1) hb
    have c1 : w2.cell? ⟨w1.heap.size, (a / 2).toNat, none⟩ = some (.int .i64 (nAt (laidM d.m z256) (a / 2).toNat)) := (cell_of_row w2 _ _ _ 80 _ g2).trans (bigA_mem y (laidM_len z256_len) hka)
    have c2 : w2.frozen? ⟨w1.heap.size, (a / 2).toNat, none⟩ = false := by simp [World.frozen?, g2]
    have R3 := hide ((show (w2.setCell ⟨w1.heap.size, (a / 2).toNat, none⟩ (.int .i64 (n % 65536))).heap[w1.heap.size]? = some (.cells (bigA ((laidM d.m z256).set (a / 2).toNat (n % 65536)) y) 80 (0, 0)) by rw [setCell_eq_setRow w2 _ _ _ 80 (0, 0) _ g2, bigA_set y _ _ (laidM_len z256_len) hka]; exact setRow_heap w2 _ _ _ 80 _ g2))
    have g3 := grownBy_set (w := w2) (b := w1.heap.size) (o := (a / 2).toNat) (.int .i64 (n % 65536))
    have B3 := hide (((unhide B1).later hb).past g3 (fun b e => by cases e; exact unhide Z1))
    have o3 := ((unhide O1).later hb).pastN (unhide O0) g3
    have A := hide (answer_any w1.heap.size (w.heap.size + 3) ((laidM d.m z256).set (a / 2).toNat (n % 65536)) y d _ (by rw [List.length_set, laidM_len z256_len]) (unhide R3) o3 (own_ne (unhide O0).m (.inr (Nat.le_refl _))))
    rw [back_set d.m (a / 2).toNat (n % 65536) hka hkl] at A
    have OM := hide (fun b (e : y.m.v.ownBlock = some b) => (o3.m.lt e).1)
    generalize ht : n % 65536 = t at WR A R3 B3 OM ⊢
    have HT := hide ht
    clear ht
    generalize hx : (a / 2).toNat = ka at c1 c2 A R3 B3 OM ⊢
    have HX := hide hx
    clear hx
    generalize nAt (laidM d.m z256) ka = old at c1
    clear hb e1 e2 e3 er1 hh ta tl t0 t1 o3 g3 g2
    go_wp2_with (first | (go_at_call 21; refine (unhide WR _).mono ?_; rintro e w' ⟨rfl, hw'⟩; rw [hw']; clear hw' w'))
    refine (unhide A).mono ?_
    rintro e w4 ⟨rfl, o4, g4⟩
    have B4 := hide ((unhide B3).past g4 (fun b e => unhide OM b e))
    have O4 := hide o4
    clear o4 g4 A
    go_wp2_with (refine wpList_store_row rfl 28 _ _ rfl (w.heap.size + 1 + 1) y.cs rfl rfl 28 zMv.cs (unhide B4).re (by kernel_rfl) rfl (Mv.cs_one _) ?_)
    refine bodyPost_ret (results_row2 (P := Try.prog) rfl _ _ (w.heap.size + 1 + 1) 28 y.cs (0, 0) _ rfl (setRow_heap w4 _ _ _ 28 _ (unhide B4).re) Try.underlying28 rfl (by kernel_rfl)) rfl ?_
    have ht := unhide HT
    have hx := unhide HX
    subst ht hx
    exact ⟨y, rfl, unhide FY, (unhide O4).row (g := w.heap.size + 1 + 1) (by omega) _, below_setRow (unhide B4).bel (by omega) _⟩
  · rw [e1] at RE
    have hq := (unhide HQ).symm.trans e2
    have hD := (unhide HD).symm.trans (show d.stD r a n = d by
      unfold Md.stD Md.put
      rw [e2]
      by_cases h : r = -1
      · rw [if_pos h]
        unfold Md.ldB at e2
        rw [if_pos h] at e2
        rw [e2]
        simp
      · rw [if_neg h]
        simp)
    clear HQ HD
    subst hq
    have hD := hD.symm
    subst hD
    refine (unhide RE).mono ?_
    rintro e w2 ⟨rfl, hb⟩
    have B2 := hide ((unhide B1).later hb)
    have A := hide (answer_any w1.heap.size (w.heap.size + 3) (laidM d.m z256) y d w2 (laidM_len z256_len) (row_lat (unhide G1) hb) ((unhide O1).later hb) (own_ne (unhide O0).m (.inr (Nat.le_refl _))))
    rw [back_same] at A
    have OM := hide (fun b (e : y.m.v.ownBlock = some b) => ((unhide O1).m.lt e).1)
    clear hb e1 e2 e3
    go_wp2_with fail
    refine (unhide A).mono ?_
    rintro e w4 ⟨rfl, o4, g4⟩
    have B4 := hide ((unhide B2).past g4 (fun b e => unhide OM b e))
    have O4 := hide o4
    clear o4 g4 A
    go_wp2_with (refine wpList_store_row rfl 28 _ _ rfl (w.heap.size + 1 + 1) y.cs rfl rfl 28 zMv.cs (unhide B4).re (by kernel_rfl) rfl (Mv.cs_one _) ?_)
    refine bodyPost_ret (results_row2 (P := Try.prog) rfl _ _ (w.heap.size + 1 + 1) 28 y.cs (0, 0) _ rfl (setRow_heap w4 _ _ _ 28 _ (unhide B4).re) Try.underlying28 rfl (by kernel_rfl)) rfl ?_
    exact ⟨y, rfl, unhide FY, (unhide O4).row (g := w.heap.size + 1 + 1) (by omega) _, below_setRow (unhide B4).bel (by omega) _⟩
end Go.Proofs.Ytfkmibgamkignaa
