/- Contracts over this seat's translation, laid together; conditions stand as hypotheses of each. -/
import Derived.Test.YtfkmibgamkignaaBndH
import Derived.Test.YtfkmibgamkignaaBndI
import Derived.Test.YtfkmibgamkignaaBndJ

namespace Go.Proofs.Ytfkmibgamkignaa
open Go.ChangeShapes Go.WideShapes Go.ChangeAt Go.RowKit
set_option linter.unusedVariables false
set_option maxRecDepth 8000
set_option linter.unusedSimpArgs false

set_option maxHeartbeats 2000000 in
theorem num_any (cb : Nat) (a : Option Addr) (len cap : Nat) (xs : List UInt8) (w : World) (hc : Cur w cb a len cap xs) :
    Calls Try.prog 74 #[.pointer (some ⟨cb, 0, none⟩)] w fun e w' => ∃ x : Int, e = .returned (.int .i64 x) ∧ Cur w' cb a len cap xs ∧ w.grownBy w' (some cb) := by
  have B0 := hide (below_any cb a len cap xs 65536 w (by omega) hc)
  have hlt := hc.lt
  clear hc
  go_enter Try.func74, Try.ntmps74
  go_wp2_with fail
  refine (unhide B0).mono ?_
  rintro e w1 ⟨y, hy0, hy1, rfl, hc1, hg1⟩
  obtain ⟨hy2, hy3⟩ := hy0 (by omega)
  clear hy0 hy1 B0
  have s1 := hg1.size
  have I1 := hide (int_lit cb a len cap xs w1 hc1 [0, 1, 2, -1, 7, 8, 255, 256, 32767, 32768, 65535, 65536, -32768, -65537, 9223372036854775807, -9223372036854775808, y] 17 rfl (by omega) (by omega) w1.heap.size rfl _ rfl)
  have G1 := hide (grownBy_trans hg1 (grownBy_below ((Below.refl w1.heap.size w1).alloc (Nat.le_refl _) (.cells ([0, 1, 2, -1, 7, 8, 255, 256, 32767, 32768, 65535, 65536, -32768, -65537, 9223372036854775807, -9223372036854775808, y].map (Value.int .i64)).toArray 3))))
  clear hc1 hg1
  go_wp2_with fail
  refine (unhide I1).mono ?_
  rintro e w2 ⟨j, hj, rfl, hc2, hg2⟩
  generalize nAt [0, 1, 2, -1, 7, 8, 255, 256, 32767, 32768, 65535, 65536, -32768, -65537, 9223372036854775807, -9223372036854775808, y] j = x
  have G2 := hide (grownBy_trans (unhide G1) hg2)
  have C2 := hide hc2
  clear hc2 hg2 I1 G1
  go_wp2
  go_ret
  exact ⟨x, rfl, unhide C2, unhide G2⟩

set_option maxHeartbeats 2000000 in
theorem addr_any (cb : Nat) (a : Option Addr) (len cap : Nat) (xs : List UInt8) (w : World) (hc : Cur w cb a len cap xs) :
    Calls Try.prog 93 #[.pointer (some ⟨cb, 0, none⟩)] w fun e w' => ∃ x : Int, e = .returned (.int .i64 x) ∧ Cur w' cb a len cap xs ∧ w.grownBy w' (some cb) := by
  have I1 := hide (int_lit cb a len cap xs w hc [0, 2, 64, 510, 512, 1, -2, 100, 9223372036854775807] 9 rfl (by omega) (by omega) w.heap.size rfl _ rfl)
  have G1 := hide (grownBy_below (r := some cb) ((Below.refl w.heap.size w).alloc (Nat.le_refl _) (.cells ([0, 2, 64, 510, 512, 1, -2, 100, 9223372036854775807].map (Value.int .i64)).toArray 3)))
  clear hc
  go_enter Try.func93, Try.ntmps93
  go_wp2_with fail
  refine (unhide I1).mono ?_
  rintro e w2 ⟨j, hj, rfl, hc2, hg2⟩
  generalize nAt [0, 2, 64, 510, 512, 1, -2, 100, 9223372036854775807] j = x
  have G2 := hide (grownBy_trans (unhide G1) hg2)
  have C2 := hide hc2
  clear hc2 hg2 I1 G1
  go_wp2
  go_ret
  exact ⟨x, rfl, unhide C2, unhide G2⟩
end Go.Proofs.Ytfkmibgamkignaa

namespace Go.Proofs.Ytfkmibgamkignaa
open Go.ChangeShapes Go.WideShapes Go.ChangeAt Go.RowKit
set_option linter.unusedVariables false
set_option maxRecDepth 8000
set_option linter.unusedSimpArgs false

theorem rch_cases (g gr : Nat) (d : Md) (r a : Int) (h8 : d.r.length ≤ 8) :
    (∃ k : Nat, r = (k : Int) ∧ a = -1 ∧ k < d.r.length ∧ rchI g gr d r a = some ⟨gr, k, none⟩ ∧ d.ldB r a = true ∧ d.ldV r a = nAt d.r k) ∨
    (r = -1 ∧ d.has a = true ∧ rchI g gr d r a = some ⟨g, (a / 2).toNat, none⟩ ∧ d.ldB r a = true ∧ d.ldV r a = d.get a) ∨
    (rchI g gr d r a = none ∧ d.ldB r a = false ∧ d.ldV r a = 0) := by
  by_cases h1 : r = -1
  · subst h1
    have e1 : regB d.r.length (-1) = false := by unfold regB; simp
    cases hq : d.has a
    · refine .inr (.inr ⟨?_, ?_, ?_⟩)
      · unfold rchI; rw [e1, hq]; simp
      · unfold Md.ldB; rw [if_pos rfl, hq]
      · unfold Md.ldV Md.get; rw [if_pos rfl, hq]; simp
    · refine .inr (.inl ⟨rfl, rfl, ?_, ?_, ?_⟩)
      · unfold rchI; rw [e1, hq]; simp
      · unfold Md.ldB; rw [if_pos rfl, hq]
      · unfold Md.ldV; rw [if_pos rfl]
  · by_cases h2 : a = -1 ∧ regB d.r.length r = true
    · obtain ⟨rfl, h3⟩ := h2
      have h4 := h3
      unfold regB at h4
      simp only [Bool.and_eq_true, decide_eq_true_eq] at h4
      obtain ⟨r0, r1, r2⟩ := h4
      obtain ⟨k, rfl⟩ := Int.eq_ofNat_of_zero_le r0
      have hB : d.ldB (k : Int) (-1) = true := by unfold Md.ldB; rw [if_neg h1]; unfold inB; simp; omega
      refine .inl ⟨k, rfl, rfl, by omega, ?_, hB, ?_⟩
      · unfold rchI; rw [if_pos ⟨rfl, h3⟩]; rfl
      · unfold Md.ldV; rw [if_neg h1, if_pos hB]; rfl
    · have hB : d.ldB r a = false := by
        unfold Md.ldB
        rw [if_neg h1]
        cases hb : (inB r 0 ((d.r.length : Int) - 1) && (a == -1))
        · rfl
        · simp only [Bool.and_eq_true, beq_iff_eq] at hb
          obtain ⟨b1, b2⟩ := hb
          obtain ⟨b3, b4⟩ := inB_b b1
          exact absurd ⟨b2, by unfold regB; simp; omega⟩ h2
      refine .inr (.inr ⟨?_, hB, ?_⟩)
      · unfold rchI; rw [if_neg h2, if_neg (fun h => h1 h.1)]
      · unfold Md.ldV; rw [if_neg h1, hB]; simp
theorem reg_form {w : World} {B : Nat} {y : Mv} {d : Md} (g : Nat) (O : OwnM w B y d) : ∃ gr rc : Nat, (0 < d.r.length → y.r = ⟨some ⟨gr, 0, none⟩, d.r.length, rc⟩) := by
  by_cases h : 0 < d.r.length
  · obtain ⟨gr, rc, e⟩ := sl_formP O.r h
    exact ⟨gr, rc, fun _ => e⟩
  · exact ⟨0, 0, fun h2 => absurd h2 h⟩

set_option maxHeartbeats 4000000 in
theorem loadI_any (x : Mv) (d : Md) (r a : Int) (w : World) (hs : x.small) (hz : x.nz) (hr : RdM w x d) (h8 : d.r.length ≤ 8) :
    Calls Try.prog 26 #[.agg x.cs, .agg #[.int .i64 r, .int .i64 a]] w fun e w' => e = .returned (.tuple #[.int .i64 (d.ldV r a), .bool (d.ldB r a)]) ∧ Below w.heap.size w w' := by
  have B := hide (bp_new w x r a)
  have X0 := hide (hr.later (unhide B).bel)
  have M := hide (machineOf_any x d _ hs hz (unhide X0))
  have S := hide hs
  have H8 := hide h8
  obtain ⟨q, hq⟩ : ∃ q, d.ldB r a = q := ⟨_, rfl⟩
  obtain ⟨v, hv⟩ : ∃ q, d.ldV r a = q := ⟨_, rfl⟩
  rw [hq, hv]
  have HQ := hide hq
  have HV := hide hv
  clear hr hs hz h8 hq hv
  go_enter Try.func26, Try.ntmps26
  go_wp2_with (refine wpList_load_row rfl 28 _ rfl w.heap.size rfl 28 x.cs (0, 0) _ (unhide B).bx Try.underlying28 rfl (by kernel_rfl) ?_)
  refine (unhide M).mono ?_
  rintro e w1 ⟨y, rfl, fy, oy, hb⟩
  have SY := hide (small_of (unhide X0) oy.rd (unhide S))
  have B1 := hide (((unhide B).later hb).later (below_new w1 (.cells (bigA (laidM d.m z256) y) 80)))
  have G1 := hide (heap_alloc_last w1 (.cells (bigA (laidM d.m z256) y) 80))
  have O1 := hide (oy.later (below_new w1 (.cells (bigA (laidM d.m z256) y) 80)))
  obtain ⟨gr, rc, er⟩ := reg_form w1.heap.size oy
  have RE := hide (reach_any w1.heap.size gr rc r a (laidM d.m z256) y d _ (laidM_len z256_len) (unhide G1) oy.rd.ml oy.rd.rl (unhide SY) er)
  have ER := hide er
  clear fy oy hb M X0 B er
  go_wp2_with (first | (refine wpList_alloc60 rfl rfl ?_) | (refine wpList_store60 rfl _ _ rfl (laidM d.m z256) y (laidM_len z256_len) rfl rfl ?_) | (refine wpList_load_row rfl 44 _ rfl (w.heap.size + 1) rfl 44 #[.int .i64 r, .int .i64 a] (0, 0) _ (unhide B1).bp Try.underlying44 rfl (by kernel_rfl) ?_))
  rcases rch_cases w1.heap.size gr d r a (unhide H8) with ⟨k, er1, ea, hk, e1, e2, e3⟩ | ⟨er1, hh, e1, e2, e3⟩ | ⟨e1, e2, e3⟩
  · rw [e1] at RE
    have hq := (unhide HQ).symm.trans e2
    have hv := (unhide HV).symm.trans e3
    clear HQ HV
    subst hq hv
    refine (unhide RE).mono ?_
    rintro e w2 ⟨rfl, hb⟩
    have c1 : w2.cell? ⟨gr, k, none⟩ = some (.int .i64 (nAt d.r k)) := (own_setR ((unhide O1).later hb) (unhide ER (by omega)) k 0 hk).2.2.2.2.1
    have B2 := hide ((unhide B1).later hb).bel
    clear hb e1 e2 e3 ea er1
    go_wp2_with fail
    go_ret2
    exact ⟨rfl, unhide B2⟩
  · rw [e1] at RE
    have hq := (unhide HQ).symm.trans e2
    have hv := (unhide HV).symm.trans e3
    clear HQ HV
    subst hq hv
    refine (unhide RE).mono ?_
    rintro e w2 ⟨rfl, hb⟩
    obtain ⟨ta, tl⟩ := has_t hh
    obtain ⟨t0, t1, _⟩ := adB_t ta
    have c1 : w2.cell? ⟨w1.heap.size, (a / 2).toNat, none⟩ = some (.int .i64 (d.get a)) := by
      rw [cell_of_row w2 _ _ _ 80 _ (row_lat (unhide G1) hb), bigA_mem y (laidM_len z256_len) (by omega), nAt_laid (by omega) (by omega)]
      unfold Md.get
      rw [if_pos hh]
    have B2 := hide ((unhide B1).later hb).bel
    generalize (a / 2).toNat = ka at c1 ⊢
    clear hb e1 e2 e3 er1 hh ta tl t0 t1
    go_wp2_with fail
    go_ret2
    exact ⟨rfl, unhide B2⟩
  · rw [e1] at RE
    have hq := (unhide HQ).symm.trans e2
    have hv := (unhide HV).symm.trans e3
    clear HQ HV
    subst hq hv
    refine (unhide RE).mono ?_
    rintro e w2 ⟨rfl, hb⟩
    have B2 := hide ((unhide B1).later hb).bel
    clear hb e1 e2 e3
    go_wp2_with fail
    go_ret2
    exact ⟨rfl, unhide B2⟩
end Go.Proofs.Ytfkmibgamkignaa

namespace Go.Proofs.Ytfkmibgamkignaa
open Go.ChangeShapes Go.WideShapes Go.ChangeAt Go.RowKit
set_option linter.unusedVariables false
set_option maxRecDepth 8000
set_option linter.unusedSimpArgs false

set_option maxHeartbeats 8000000 in
theorem storeI_any (x : Mv) (d : Md) (r a n : Int) (w : World) (hs : x.small) (hz : x.nz) (hr : RdM w x d) (h8 : d.r.length ≤ 8) :
    Calls Try.prog 29 #[.agg x.cs, .agg #[.int .i64 r, .int .i64 a], .int .i64 n] w fun e w' => ∃ y : Mv, e = .returned (.tuple #[.agg y.cs, .bool (d.ldB r a)]) ∧ y.fl = x.fl ∧ OwnM w' (w.heap.size + 3) y (d.stD r a n) ∧ Below w.heap.size w w' := by
  have B := hide (bs_new w x r a)
  have X0 := hide (hr.later (unhide B).bel)
  have M := hide (machineOf_any x d _ hs hz (unhide X0))
  have S := hide hs
  have H8 := hide h8
  obtain ⟨q, hq⟩ : ∃ q, d.ldB r a = q := ⟨_, rfl⟩
  obtain ⟨D, hD⟩ : ∃ q, d.stD r a n = q := ⟨_, rfl⟩
  rw [hq, hD]
  have HQ := hide hq
  have HD := hide hD
  have WR := hide (fun w => wrapI_any n w)
  clear hr hs hz h8 hq hD
  go_enter Try.func29, Try.ntmps29
  go_wp2_with (refine wpList_load_row rfl 28 _ rfl w.heap.size rfl 28 x.cs (0, 0) _ (unhide B).bx Try.underlying28 rfl (by kernel_rfl) ?_)
  refine (unhide M).mono ?_
  rintro e w1 ⟨y, rfl, fy, oy, hb⟩
  have oy := oy.base (C := w.heap.size + 3) (by have := (unhide B).sz; omega)
  have FY := hide fy
  have SY := hide (small_of (unhide X0) oy.rd (unhide S))
  have B1 := hide (((unhide B).later hb).later (below_new w1 (.cells (bigA (laidM d.m z256) y) 80)))
  have Z1 := hide (((unhide B).later hb).sz)
  have G1 := hide (heap_alloc_last w1 (.cells (bigA (laidM d.m z256) y) 80))
  have O0 := hide oy
  have O1 := hide (oy.later (below_new w1 (.cells (bigA (laidM d.m z256) y) 80)))
  obtain ⟨gr, rc, er⟩ := reg_form w1.heap.size oy
  have RE := hide (reach_any w1.heap.size gr rc r a (laidM d.m z256) y d _ (laidM_len z256_len) (unhide G1) oy.rd.ml oy.rd.rl (unhide SY) er)
  have ER := hide er
  clear fy oy hb M X0 B er
  go_wp2_with (first | (refine wpList_alloc60 rfl rfl ?_) | (refine wpList_store60 rfl _ _ rfl (laidM d.m z256) y (laidM_len z256_len) rfl rfl ?_) | (refine wpList_load_row rfl 44 _ rfl (w.heap.size + 1) rfl 44 #[.int .i64 r, .int .i64 a] (0, 0) _ (unhide B1).bp Try.underlying44 rfl (by kernel_rfl) ?_))
  rcases rch_cases w1.heap.size gr d r a (unhide H8) with ⟨k, er1, ea, hk, e1, e2, e3⟩ | ⟨er1, hh, e1, e2, e3⟩ | ⟨e1, e2, e3⟩
  · rw [e1] at RE
    have hq := (unhide HQ).symm.trans e2
    have hD := (unhide HD).symm.trans (show d.stD r a n = ⟨d.m, d.r.set k (n % 65536), d.i, d.o⟩ by unfold Md.stD; rw [if_neg (by omega), if_pos e2, er1]; rfl)
    clear HQ HD
    subst hq hD
    refine (unhide RE).mono ?_
    rintro e w2 ⟨rfl, hb⟩
    obtain ⟨o3, g3, lo, lt, c1, c2⟩ := own_setR ((unhide O1).later hb) (unhide ER (by omega)) k (n % 65536) hk
    have B3 := hide (((unhide B1).later hb).past g3 (fun b e => by cases e; exact lo))
    have hne : gr ≠ w1.heap.size := by have := own_rlt (unhide O0) (unhide ER (by omega)); omega
    have R3 := hide (row_past (row_lat (unhide G1) hb) g3 hne)
    have A := hide (answer_any w1.heap.size (w.heap.size + 3) (laidM d.m z256) y ⟨d.m, d.r.set k (n % 65536), d.i, d.o⟩ _ (laidM_len z256_len) (unhide R3) o3 (own_ne (unhide O0).m (.inr (Nat.le_refl _))))
    rw [back_same] at A
    have OM := hide (fun b (e : y.m.v.ownBlock = some b) => (o3.m.lt e).1)
    generalize ht : n % 65536 = t at WR A R3 B3 OM ⊢
    have HT := hide ht
    clear ht
    clear hb e1 e2 e3 ea er1 o3 g3 lo lt
    go_wp2_with (first | (go_at_call 21; refine (unhide WR _).mono ?_; rintro e w' ⟨rfl, hw'⟩; rw [hw']; clear hw' w'))
    refine (unhide A).mono ?_
    rintro e w4 ⟨rfl, o4, g4⟩
    have B4 := hide ((unhide B3).past g4 (fun b e => unhide OM b e))
    have O4 := hide o4
    clear o4 g4 A
    go_wp2_with (refine wpList_store_row rfl 28 _ _ rfl (w.heap.size + 1 + 1) y.cs rfl rfl 28 zMv.cs (unhide B4).re (by kernel_rfl) rfl (Mv.cs_one _) ?_)
    refine bodyPost_ret (results_row2 (P := Try.prog) rfl _ _ (w.heap.size + 1 + 1) 28 y.cs (0, 0) _ rfl (setRow_heap w4 _ _ _ 28 _ (unhide B4).re) Try.underlying28 rfl (by kernel_rfl)) rfl ?_
    have ht := unhide HT
    subst ht
    exact ⟨y, rfl, unhide FY, (unhide O4).row (g := w.heap.size + 1 + 1) (by omega) _, below_setRow (unhide B4).bel (by omega) _⟩
  · rw [e1] at RE
    obtain ⟨ta, tl⟩ := has_t hh
    obtain ⟨t0, t1, _⟩ := adB_t ta
    have hq := (unhide HQ).symm.trans e2
    have hD := (unhide HD).symm.trans (show d.stD r a n = ⟨d.m.set (a / 2).toNat (n % 65536), d.r, d.i, d.o⟩ by unfold Md.stD Md.put; rw [if_pos er1, if_pos hh])
    clear HQ HD
    subst hq hD
    refine (unhide RE).mono ?_
    rintro e w2 ⟨rfl, hb⟩
    have hka : (a / 2).toNat < 256 := by omega
    have hkl : (a / 2).toNat < d.m.length := by omega
    have g2 := row_lat (unhide G1) hb
    have c1 : w2.cell? ⟨w1.heap.size, (a / 2).toNat, none⟩ = some (.int .i64 (nAt (laidM d.m z256) (a / 2).toNat)) := (cell_of_row w2 _ _ _ 80 _ g2).trans (bigA_mem y (laidM_len z256_len) hka)
    have c2 : w2.frozen? ⟨w1.heap.size, (a / 2).toNat, none⟩ = false := by simp [World.frozen?, g2]
    have R3 := hide ((show (w2.setCell ⟨w1.heap.size, (a / 2).toNat, none⟩ (.int .i64 (n % 65536))).heap[w1.heap.size]? = some (.cells (bigA ((laidM d.m z256).set (a / 2).toNat (n % 65536)) y) 80 (0, 0)) by rw [setCell_eq_setRow w2 _ _ _ 80 (0, 0) _ g2, bigA_set y _ _ (laidM_len z256_len) hka]; exact setRow_heap w2 _ _ _ 80 _ g2))
    have g3 := grownBy_set (w := w2) (b := w1.heap.size) (o := (a / 2).toNat) (.int .i64 (n % 65536))
    have B3 := hide (((unhide B1).later hb).past g3 (fun b e => by cases e; exact unhide Z1))
    have o3 := ((unhide O1).later hb).pastN (unhide O0) g3
    have A := hide (answer_any w1.heap.size (w.heap.size + 3) ((laidM d.m z256).set (a / 2).toNat (n % 65536)) y d _ (by rw [List.length_set, laidM_len z256_len]) (unhide R3) o3 (own_ne (unhide O0).m (.inr (Nat.le_refl _))))
    rw [back_set d.m (a / 2).toNat (n % 65536) hka hkl] at A
    have OM := hide (fun b (e : y.m.v.ownBlock = some b) => (o3.m.lt e).1)
    generalize ht : n % 65536 = t at WR A R3 B3 OM ⊢
    have HT := hide ht
    clear ht
    generalize hx : (a / 2).toNat = ka at c1 c2 A R3 B3 OM ⊢
    have HX := hide hx
    clear hx
    generalize nAt (laidM d.m z256) ka = old at c1
    clear hb e1 e2 e3 er1 hh ta tl t0 t1 o3 g3 g2
    go_wp2_with (first | (go_at_call 21; refine (unhide WR _).mono ?_; rintro e w' ⟨rfl, hw'⟩; rw [hw']; clear hw' w'))
    refine (unhide A).mono ?_
    rintro e w4 ⟨rfl, o4, g4⟩
    have B4 := hide ((unhide B3).past g4 (fun b e => unhide OM b e))
    have O4 := hide o4
    clear o4 g4 A
    go_wp2_with (refine wpList_store_row rfl 28 _ _ rfl (w.heap.size + 1 + 1) y.cs rfl rfl 28 zMv.cs (unhide B4).re (by kernel_rfl) rfl (Mv.cs_one _) ?_)
    refine bodyPost_ret (results_row2 (P := Try.prog) rfl _ _ (w.heap.size + 1 + 1) 28 y.cs (0, 0) _ rfl (setRow_heap w4 _ _ _ 28 _ (unhide B4).re) Try.underlying28 rfl (by kernel_rfl)) rfl ?_
    have ht := unhide HT
    have hx := unhide HX
    subst ht hx
    exact ⟨y, rfl, unhide FY, (unhide O4).row (g := w.heap.size + 1 + 1) (by omega) _, below_setRow (unhide B4).bel (by omega) _⟩
  · rw [e1] at RE
    have hq := (unhide HQ).symm.trans e2
    have hD := (unhide HD).symm.trans (show d.stD r a n = d by
      unfold Md.stD Md.put
      rw [e2]
      by_cases h : r = -1
      · rw [if_pos h]
        unfold Md.ldB at e2
        rw [if_pos h] at e2
        rw [e2]
        simp
      · rw [if_neg h]
        simp)
    clear HQ HD
    subst hq
    have hD := hD.symm
    subst hD
    refine (unhide RE).mono ?_
    rintro e w2 ⟨rfl, hb⟩
    have B2 := hide ((unhide B1).later hb)
    have A := hide (answer_any w1.heap.size (w.heap.size + 3) (laidM d.m z256) y d w2 (laidM_len z256_len) (row_lat (unhide G1) hb) ((unhide O1).later hb) (own_ne (unhide O0).m (.inr (Nat.le_refl _))))
    rw [back_same] at A
    have OM := hide (fun b (e : y.m.v.ownBlock = some b) => ((unhide O1).m.lt e).1)
    clear hb e1 e2 e3
    go_wp2_with fail
    refine (unhide A).mono ?_
    rintro e w4 ⟨rfl, o4, g4⟩
    have B4 := hide ((unhide B2).past g4 (fun b e => unhide OM b e))
    have O4 := hide o4
    clear o4 g4 A
    go_wp2_with (refine wpList_store_row rfl 28 _ _ rfl (w.heap.size + 1 + 1) y.cs rfl rfl 28 zMv.cs (unhide B4).re (by kernel_rfl) rfl (Mv.cs_one _) ?_)
    refine bodyPost_ret (results_row2 (P := Try.prog) rfl _ _ (w.heap.size + 1 + 1) 28 y.cs (0, 0) _ rfl (setRow_heap w4 _ _ _ 28 _ (unhide B4).re) Try.underlying28 rfl (by kernel_rfl)) rfl ?_
    exact ⟨y, rfl, unhide FY, (unhide O4).row (g := w.heap.size + 1 + 1) (by omega) _, below_setRow (unhide B4).bel (by omega) _⟩
end Go.Proofs.Ytfkmibgamkignaa

namespace Go.Proofs.Ytfkmibgamkignaa
open Go.ChangeShapes Go.WideShapes Go.ChangeAt Go.RowKit
set_option linter.unusedVariables false
set_option maxRecDepth 8000
set_option linter.unusedSimpArgs false

theorem newB_i {im : List Int} {a st : Int} {ins : List Int} (h1 : inB a 0 510 = true) (h2 : a % 2 = 0) (h3 : (im.length : Int) ≤ 256 - a / 2) (h4 : wdB im = true) (h5 : inB st 0 65535 = true) (h6 : (ins.length : Int) ≤ 50) (h7 : wdB ins = true) : newB im a st ins = true := by
  unfold newB
  rw [h1, h4, h5, h7, decide_eq_true h3, decide_eq_true h6, h2]
  rfl
theorem lit_bd7 (b : Int) (h0 : 0 ≤ b) (h1 : b ≤ 255) (j : Nat) (hj : j < 7) : 0 ≤ nAt [0, 2, 100, 200, 510, 3, b * 2] j ∧ nAt [0, 2, 100, 200, 510, 3, b * 2] j ≤ 65535 := by
  obtain rfl | rfl | rfl | rfl | rfl | rfl | rfl : j = 0 ∨ j = 1 ∨ j = 2 ∨ j = 3 ∨ j = 4 ∨ j = 5 ∨ j = 6 := by omega
  all_goals simp [nAt]
  all_goals omega
theorem lit_bd3 (j : Nat) (hj : j < 3) : 0 ≤ nAt [512, 500, 400] j ∧ nAt [512, 500, 400] j ≤ 65535 := by
  obtain rfl | rfl | rfl : j = 0 ∨ j = 1 ∨ j = 2 := by omega
  all_goals simp [nAt]
theorem lit_bd5 (j : Nat) (hj : j < 5) : 0 ≤ nAt [0, 2, 100, 64, 65535] j ∧ nAt [0, 2, 100, 64, 65535] j ≤ 65535 := by
  obtain rfl | rfl | rfl | rfl | rfl : j = 0 ∨ j = 1 ∨ j = 2 ∨ j = 3 ∨ j = 4 := by omega
  all_goals simp [nAt]
/-- While the words that are to come are drawn. -/
structure Ei (w wr : World) (cb : Nat) (a : Option Addr) (len cap : Nat) (xs : List UInt8) (s : Sl) (ns : List Int) : Prop where
  cur : Cur wr cb a len cap xs
  gr : w.grownBy wr (some cb)
  re : wr.heap[w.heap.size]? = some (.cells zMv.cs 28 (0, 0))
  own : OwnN wr (w.heap.size + 1) s.v ns
  wd : Wd ns
section
variable {w wr w' : World} {cb : Nat} {a : Option Addr} {len cap : Nat} {xs : List UInt8} {s : Sl} {ns : List Int}
theorem Ei.draw (h : Ei w wr cb a len cap xs s ns) (hlt : cb < w.heap.size) (hc : Cur w' cb a len cap xs) (hg : wr.grownBy w' (some cb)) : Ei w w' cb a len cap xs s ns :=
  { h with cur := hc, gr := grownBy_trans h.gr hg, re := row_gb h.re hg (fun b e => by cases e; omega), own := h.own.gb hg (fun b e e2 => by cases e; have := (h.own.lt e2).1; omega) }
theorem Ei.later (h : Ei w wr cb a len cap xs s ns) (hlt : cb < w.heap.size) (hb : Below wr.heap.size wr w') : Ei w w' cb a len cap xs s ns := h.draw hlt (h.cur.later hb) (grownBy_below hb)
end

set_option maxHeartbeats 8000000 in
theorem draw5_any (cb : Nat) (a : Option Addr) (len cap : Nat) (xs : List UInt8) (w : World) (hc : Cur w cb a len cap xs) :
    Calls Try.prog 55 #[.pointer (some ⟨cb, 0, none⟩)] w fun e w' => ∃ (x : Mv) (d : Md), e = .returned (.agg x.cs) ∧ x.st = 0 ∧ Dk d ∧ OwnM w' (w.heap.size + 1) x d ∧ Cur w' cb a len cap xs ∧ w.grownBy w' (some cb) := by
  have hlt := hc.lt
  have CD := hide hc.code
  have b1 := (below_new w (.cells #[Value.slice none 0 0, Value.slice none 0 0, Value.bool false, Value.bool false, Value.bool false, Value.bool false, Value.slice none 0 0, Value.slice none 0 0, Value.int .i64 0] 28)).trans ((below_new (w.alloc (.cells #[Value.slice none 0 0, Value.slice none 0 0, Value.bool false, Value.bool false, Value.bool false, Value.bool false, Value.slice none 0 0, Value.slice none 0 0, Value.int .i64 0] 28)) (.cells #[] 3)).mono (below_new w (.cells #[Value.slice none 0 0, Value.slice none 0 0, Value.bool false, Value.bool false, Value.bool false, Value.bool false, Value.slice none 0 0, Value.slice none 0 0, Value.int .i64 0] 28)).size)
  have z1 : (w.alloc (.cells #[Value.slice none 0 0, Value.slice none 0 0, Value.bool false, Value.bool false, Value.bool false, Value.bool false, Value.slice none 0 0, Value.slice none 0 0, Value.int .i64 0] 28)).heap.size = w.heap.size + 1 := by simp
  have I0 := hide (show Ei w ((w.alloc (.cells #[Value.slice none 0 0, Value.slice none 0 0, Value.bool false, Value.bool false, Value.bool false, Value.bool false, Value.slice none 0 0, Value.slice none 0 0, Value.int .i64 0] 28)).alloc (.cells #[] 3)) cb a len cap xs ⟨some ⟨w.heap.size + 1, 0, none⟩, 0, 0⟩ [] from ⟨hc.later b1, grownBy_below b1, row_lat (heap_alloc_last w _) (below_new _ _), ownN_new _ _ _ z1 (by omega), fun x hx => by cases hx⟩)
  have P := hide (below_any cb a len cap xs 4 _ (by omega) (unhide I0).cur)
  clear hc b1 z1
  go_enter Try.func55, Try.ntmps55
  go_wp2_with fail
  refine (unhide P).mono ?_
  rintro e w1 ⟨y, hy0, hy1, rfl, hc1, hg1⟩
  obtain ⟨hy2, hy3⟩ := hy0 (by omega)
  obtain ⟨k0, rfl⟩ := Int.eq_ofNat_of_zero_le hy2
  have I1 := hide ((unhide I0).draw hlt hc1 hg1)
  clear hc1 hg1 I0 P hy0 hy1
  go_wp2_with fail
  go_loopw [3, 4] (fun v v4 wr => ∃ (k : Nat) (s : Sl) (ns : List Int), k ≤ k0 ∧ v4 = .int .i64 k ∧ v = .slice s.a s.n s.c ∧ ns.length + k ≤ 3 ∧ Hid (Ei w wr cb a len cap xs s ns)) (fun _ v4 _ => (intOf v4).toNat)
  case atStart => exact ⟨k0, ⟨some ⟨w.heap.size + 1, 0, none⟩, 0, 0⟩, [], Nat.le_refl _, rfl, rfl, by simp; omega, I1⟩
  case round =>
    clear I1
    obtain ⟨k, s, ns, hk, rfl, rfl, hln, hE⟩ := hrel
    have EI := hide (unhide hE)
    clear hE
    by_cases hk0 : k = 0
    · subst hk0
      have P := hide (wordsD_any cb a len cap xs 12 (by omega) wr (unhide EI).cur)
      have hln2 : ns.length ≤ 3 := by omega
      clear hln hk
      go_wp2_with fail
      refine (unhide P).mono ?_
      rintro e w2 ⟨v, ni, rfl, hne, own2, hwd, hil, hc2, hg2⟩
      obtain ⟨va, vn, vc, rfl⟩ : ∃ a n c, v = .slice a n c := by obtain ⟨a, c, e, _⟩ := own2.rd; exact ⟨_, _, _, e⟩
      have E2 := hide ((unhide EI).draw hlt hc2 hg2)
      have O2 := hide (show OwnN w2 wr.heap.size (Sl.mk va vn vc).v ni from own2)
      have NB := hide (newB_i (im := ni) (a := 64) (st := 64) (ins := ns) (by rfl) (by omega) (by omega) (wdB_of hwd) (by rfl) (by omega) (wdB_of (unhide E2).wd))
      have DK := hide (dk_new (k := 32) (st := 64) (by omega) hwd (unhide E2).wd (by omega) (by omega) (by omega))
      clear P
      have P := hide (newS_yes ⟨va, vn, vc⟩ s ni ns 64 64 w2 (unhide O2).rdS (unhide E2).own.rdS (unhide O2).len (unhide E2).own.len (unhide E2).own.nz (unhide NB))
      clear hc2 hg2 own2 EI hne hwd NB
      go_wp2_with fail
      refine (unhide P).mono ?_
      rintro e w3 ⟨y, rfl, fy, oy, hb⟩
      have hsz : w.heap.size < w2.heap.size := row_lt (unhide E2).re
      have e3 := ((unhide E2).later hlt hb).later hlt (below_new w3 (.cells y.cs 28))
      have ED := hide (show Ed w (w3.alloc (.cells y.cs 28)) cb a len cap xs y w3.heap.size ⟨over z256 32 ni, newR 64, ns, []⟩ from ⟨e3.cur, e3.gr, e3.re, heap_alloc_last w3 _, (oy.base (by omega)).later (below_new _ _), by have := hb.size; omega, fun b hb' => by have := (oy.lo hb').2; omega, hlt, unhide CD⟩)
      have Y0 := hide (show y.st = 0 from fl_st fy)
      have L256 : (over z256 (64 / 2 : Int).toNat ni).length = 256 := (unhide DK).ml
      obtain ⟨gm, mc, hgm⟩ := sl_form oy.m (by rw [show (Md.m ⟨over z256 (64 / 2 : Int).toNat ni, newR 64, ns, []⟩).length = 256 from L256]; omega)
      obtain ⟨gr, rc, hgr⟩ := sl_form oy.r (by simp [newR])
      rw [show (Md.m ⟨over z256 (64 / 2 : Int).toNat ni, newR 64, ns, []⟩).length = 256 from L256] at hgm
      rw [show (Md.r ⟨over z256 (64 / 2 : Int).toNat ni, newR 64, ns, []⟩).length = 8 from rfl] at hgr
      have GM := hide hgm
      have GR := hide hgr
      generalize hg5 : w3.heap.size = g5 at ED
      have HG5 := hide hg5
      clear hb oy fy e3 P O2 E2 hgm hgr hsz L256 hg5
      go_wp2_with (refine wpList_store_new rfl 28 _ _ rfl y.cs rfl rfl _ (by kernel_rfl) rfl (Mv.cs_one _) ?_)
      rw [unhide HG5]
      go_loopw [6] (fun v6 w4 => ∃ (i : Nat) (d : Md), i ≤ 6 ∧ v6 = .int .i64 i ∧ Hid (Dk d) ∧ Hid (Ed w w4 cb a len cap xs y g5 d)) (fun v6 _ => 6 - (intOf v6).toNat)
      case atStart => exact ⟨0, _, Nat.zero_le _, rfl, DK, ED⟩
      case round =>
        clear ED DK
        obtain ⟨i, d, hi, rfl, hD, hE⟩ := hrel
        have DK := hide (unhide hD)
        have ED := hide (unhide hE)
        clear hD hE
        by_cases hi6 : i < 6
        · have C1 := hide (show wr.cell? ⟨g5, 1, none⟩ = some (.slice (some ⟨gr, 0, none⟩) 8 rc) by rw [row_r (unhide ED).r5, unhide GR])
          have DR := hide ((unhide ED).later below_drew)
          go_wp2_with fail
          refine wp_region_held_drew (S := fun w' => w'.cell? ⟨g5, 1, none⟩ = some (.slice (some ⟨gr, 0, none⟩) 8 rc)) (by kernel_rfl) (unhide C1) (fun hS => ?_)
          have HS := hide hS
          clear hS C1
          refine wpAnyH_take (i := 0) (v := .pointer (some ⟨g5, 1, none⟩)) rfl (by kernel_rfl) (by kernel_rfl) (by kernel_rfl) (fun _ _ _ h => h) (Or.inl ⟨by rfl, fun w hc => ?_⟩) (unhide HS) ?_
          · clear hc; go_simp
          go_simp
          refine wpAnyH_take (i := 1) (v := (.slice (some ⟨gr, 0, none⟩) 8 rc)) rfl (by kernel_rfl) (by kernel_rfl) (by kernel_rfl) (fun _ _ _ h => h) (Or.inl ⟨by rfl, fun w hc => ?_⟩) (unhide HS) ?_
          · go_simp
          go_simp
          refine wpAnyH_take (i := 2) (v := .int .i64 (i : Int)) rfl (by kernel_rfl) (by kernel_rfl) (by kernel_rfl) (fun _ _ _ h => h) (Or.inl ⟨by rfl, fun w hc => ?_⟩) (unhide HS) ?_
          · clear hc; go_simp
          go_simp
          refine wpAnyH_take (i := 3) (v := .pointer (some ⟨cb, 0, none⟩)) rfl (by kernel_rfl) (by kernel_rfl) (by kernel_rfl) (fun _ _ _ h => h) (Or.inl ⟨by rfl, fun w hc => ?_⟩) (unhide HS) ?_
          · clear hc; go_simp
          go_simp
          refine wpAnyH_take (i := 4) (v := .pointer (some ⟨cb, 0, none⟩)) rfl (by kernel_rfl) (by kernel_rfl) (by kernel_rfl) (fun _ _ _ h => h) (Or.inl ⟨by rfl, fun w hc => ?_⟩) (unhide HS) ?_
          · clear hc; go_simp
          go_simp
          refine wpAnyH_ready (rs := [5]) (by kernel_rfl) (by simp) ?_
          refine AllReadyH.cons rfl (fun K2 hK => ?_) AllReadyH.nil
          have P := hide (below_any cb a len cap xs 256 wr.drew (by omega) (unhide DR).cur)
          go_simp
          refine (unhide P).mono ?_
          rintro e u1 ⟨b, hb0, _, rfl, hc1, hg1⟩
          obtain ⟨b0, b1⟩ := hb0 (by omega)
          have E1 := hide ((unhide DR).draw hc1 hg1)
          clear hc1 hg1 hb0 P DR
          refine hK.out _ _ ((row_r (unhide E1).r5).trans (by rw [unhide GR])) (fun hS => ?_)
          clear HS
          have HS := hide hS
          clear hS hK K2
          have HM := hide (show IntKind.i64.wrap (b * 2) = b * 2 by rw [IntKind.wrap_i64]; omega)
          refine wpAnyH_take (i := 6) (v := .int .i64 (b * 2)) rfl (by kernel_rfl) (by kernel_rfl) (by kernel_rfl) (fun _ _ _ h => h) (Or.inl ⟨by rfl, fun w hc => ?_⟩) (unhide HS) ?_
          · clear hc; have hm := unhide HM; go_simp
          go_simp
          refine wpAnyH_ready (rs := [7]) (by kernel_rfl) (by simp) ?_
          refine AllReadyH.cons rfl (fun K2 hK => ?_) AllReadyH.nil
          go_simp
          refine hK.out _ _ ((row_r ((unhide E1).alloc (.cells (([0, 2, 100, 200, 510, 3, b * 2] : List Int).map (Value.int .i64)).toArray 3)).r5).trans (by rw [unhide GR])) (fun hS => ?_)
          clear HS
          have HS := hide hS
          clear hS hK K2
          refine wpAnyH_ready (rs := [8]) (by kernel_rfl) (by simp) ?_
          refine AllReadyH.cons rfl (fun K2 hK => ?_) AllReadyH.nil
          have P := hide (int_lit cb a len cap xs u1 (unhide E1).cur [0, 2, 100, 200, 510, 3, b * 2] 7 rfl (by omega) (by omega) u1.heap.size rfl _ rfl)
          go_simp
          refine (unhide P).mono ?_
          rintro e u2 ⟨j, hj, rfl, hc2, hg2⟩
          have vb := lit_bd7 b b0 (by omega) j hj
          generalize nAt [0, 2, 100, 200, 510, 3, b * 2] j = v at vb ⊢
          have E2 := hide (((unhide E1).alloc (.cells (([0, 2, 100, 200, 510, 3, b * 2] : List Int).map (Value.int .i64)).toArray 3)).draw hc2 hg2)
          clear hc2 hg2 hj P E1 HM
          refine hK.out _ _ ((row_r (unhide E2).r5).trans (by rw [unhide GR])) (fun hS => ?_)
          clear HS
          have HS := hide hS
          clear hS hK K2
          have i8 : (i : Int) < 8 := by omega
          refine wpAnyH_take (i := 9) (v := .pointer (some ⟨gr, i, none⟩)) rfl (by kernel_rfl) (by kernel_rfl) (by kernel_rfl) (fun _ _ _ h => h) (Or.inl ⟨by rfl, fun w hc => ?_⟩) (unhide HS) ?_
          · clear hc; go_simp
          go_simp
          refine wpAnyH_ready (rs := [10]) (by kernel_rfl) (by simp) ?_
          refine AllReadyH.cons rfl (fun K2 hK => ?_) AllReadyH.nil
          obtain ⟨cm1, cm2⟩ := (unhide E2).cellR (unhide GR) i (by have := (unhide DK).rl; omega)
          have E3 := hide ((unhide E2).setR (unhide GR) i v (by have := (unhide DK).rl; omega))
          go_simp
          refine hK.out _ _ ((row_r (unhide E3).r5).trans (by rw [unhide GR])) (fun hS => ?_)
          clear HS
          have HS := hide hS
          clear hS hK K2
          clear cm1 cm2
          refine wpAnyH_done (by kernel_rfl) ?_ _
          go_wp2
          go_roundw
          case rel => exact ⟨i + 1, _, by omega, by go_num, (unhide DK).setR i v vb.1 vb.2, E3⟩
          case measure => simp [intOf]; omega
        · have C1 := hide (show wr.cell? ⟨g5, 1, none⟩ = some (.slice (some ⟨gr, 0, none⟩) 8 rc) by rw [row_r (unhide ED).r5, unhide GR])
          have DR := hide ((unhide ED).later below_drew)
          go_wp2_with fail
          refine wp_region_held_drew (S := fun w' => w'.cell? ⟨g5, 1, none⟩ = some (.slice (some ⟨gr, 0, none⟩) 8 rc)) (by kernel_rfl) (unhide C1) (fun hS => ?_)
          have HS := hide hS
          clear hS C1
          refine wpAnyH_take (i := 0) (v := .pointer (some ⟨g5, 1, none⟩)) rfl (by kernel_rfl) (by kernel_rfl) (by kernel_rfl) (fun _ _ _ h => h) (Or.inl ⟨by rfl, fun w hc => ?_⟩) (unhide HS) ?_
          · clear hc; go_simp
          go_simp
          refine wpAnyH_take (i := 1) (v := (.slice (some ⟨gr, 0, none⟩) 8 rc)) rfl (by kernel_rfl) (by kernel_rfl) (by kernel_rfl) (fun _ _ _ h => h) (Or.inl ⟨by rfl, fun w hc => ?_⟩) (unhide HS) ?_
          · go_simp
          go_simp
          refine wpAnyH_take (i := 2) (v := .pointer (some ⟨cb, 0, none⟩)) rfl (by kernel_rfl) (by kernel_rfl) (by kernel_rfl) (fun _ _ _ h => h) (Or.inl ⟨by rfl, fun w hc => ?_⟩) (unhide HS) ?_
          · clear hc; go_simp
          go_simp
          refine wpAnyH_ready (rs := [3]) (by kernel_rfl) (by simp) ?_
          refine AllReadyH.cons rfl (fun K2 hK => ?_) AllReadyH.nil
          go_simp
          refine hK.out _ _ ((row_r ((unhide DR).alloc (.cells (([512, 500, 400] : List Int).map (Value.int .i64)).toArray 3)).r5).trans (by rw [unhide GR])) (fun hS => ?_)
          clear HS
          have HS := hide hS
          clear hS hK K2
          refine wpAnyH_ready (rs := [4]) (by kernel_rfl) (by simp) ?_
          refine AllReadyH.cons rfl (fun K2 hK => ?_) AllReadyH.nil
          have P := hide (int_lit cb a len cap xs wr.drew (unhide DR).cur [512, 500, 400] 3 rfl (by omega) (by omega) wr.heap.size rfl _ rfl)
          go_simp
          refine (unhide P).mono ?_
          rintro e u2 ⟨j, hj, rfl, hc2, hg2⟩
          have vb := lit_bd3 j hj
          generalize nAt [512, 500, 400] j = v at vb ⊢
          have E2 := hide (((unhide DR).alloc (.cells (([512, 500, 400] : List Int).map (Value.int .i64)).toArray 3)).draw hc2 hg2)
          clear hc2 hg2 hj P DR
          refine hK.out _ _ ((row_r (unhide E2).r5).trans (by rw [unhide GR])) (fun hS => ?_)
          clear HS
          have HS := hide hS
          clear hS hK K2
          refine wpAnyH_take (i := 5) (v := .pointer (some ⟨gr, 6, none⟩)) rfl (by kernel_rfl) (by kernel_rfl) (by kernel_rfl) (fun _ _ _ h => h) (Or.inl ⟨by rfl, fun w hc => ?_⟩) (unhide HS) ?_
          · clear hc; go_simp
          go_simp
          refine wpAnyH_ready (rs := [6]) (by kernel_rfl) (by simp) ?_
          refine AllReadyH.cons rfl (fun K2 hK => ?_) AllReadyH.nil
          obtain ⟨cm1, cm2⟩ := (unhide E2).cellR (unhide GR) 6 (by have := (unhide DK).rl; omega)
          have E3 := hide ((unhide E2).setR (unhide GR) 6 v (by have := (unhide DK).rl; omega))
          have D3 := hide ((unhide DK).setR 6 v vb.1 vb.2)
          go_simp
          refine hK.out _ _ ((row_r (unhide E3).r5).trans (by rw [unhide GR])) (fun hS => ?_)
          clear HS
          have HS := hide hS
          clear hS hK K2
          clear cm1 cm2 HS DK E2 ED
          refine wpAnyH_done (by kernel_rfl) ?_ _
          have P := hide (once_any cb a len cap xs 2 _ (by omega) (unhide E3).cur)
          go_wp2_with fail
          refine (unhide P).mono ?_
          rintro e f0 ⟨bn, rfl, hc, hg⟩
          have EF := hide ((unhide E3).draw hc hg)
          have o2 := row_n (unhide EF).r5
          have z2 := row_fz (unhide EF).r5 2
          have EG := hide ((unhide EF).setF 2 (.bool bn) (⟨y.m, y.r, bn, y.z, y.v, y.c, y.i, y.o, y.st⟩ : Mv) rfl rfl rfl rfl rfl)
          clear hc hg P E3
          have E3 := hide (unhide EG)
          clear EG EF
          have P := hide (once_any cb a len cap xs 2 _ (by omega) (unhide E3).cur)
          go_wp2_with fail
          refine (unhide P).mono ?_
          rintro e f1 ⟨bz, rfl, hc, hg⟩
          have EF := hide ((unhide E3).draw hc hg)
          have o3 := row_z (unhide EF).r5
          have z3 := row_fz (unhide EF).r5 3
          have EG := hide ((unhide EF).setF 3 (.bool bz) (⟨y.m, y.r, bn, bz, y.v, y.c, y.i, y.o, y.st⟩ : Mv) rfl rfl rfl rfl rfl)
          clear hc hg P E3
          have E3 := hide (unhide EG)
          clear EG EF
          have P := hide (once_any cb a len cap xs 2 _ (by omega) (unhide E3).cur)
          go_wp2_with fail
          refine (unhide P).mono ?_
          rintro e f2 ⟨bc, rfl, hc, hg⟩
          have EF := hide ((unhide E3).draw hc hg)
          have o5 := row_c (unhide EF).r5
          have z5 := row_fz (unhide EF).r5 5
          have EG := hide ((unhide EF).setF 5 (.bool bc) (⟨y.m, y.r, bn, bz, y.v, bc, y.i, y.o, y.st⟩ : Mv) rfl rfl rfl rfl rfl)
          clear hc hg P E3
          have E3 := hide (unhide EG)
          clear EG EF
          go_wp2
          go_loopw [7] (fun v7 w4 => ∃ (i : Nat) (d : Md), i ≤ 8 ∧ v7 = .int .i64 i ∧ Hid (Dk d) ∧ Hid (Ed w w4 cb a len cap xs (⟨y.m, y.r, bn, bz, y.v, bc, y.i, y.o, y.st⟩ : Mv) g5 d)) (fun v7 _ => 8 - (intOf v7).toNat)
          case atStart => exact ⟨0, _, Nat.zero_le _, rfl, D3, E3⟩
          case round =>
            clear E3 D3 o2 z2 o3 z3 o5 z5
            obtain ⟨i2, d2, hi2, rfl, hD, hE⟩ := hrel
            have DK := hide (unhide hD)
            have ED := hide (unhide hE)
            have GM3 : Hid (((⟨y.m, y.r, bn, bz, y.v, bc, y.i, y.o, y.st⟩ : Mv)).m = ⟨some ⟨gm, 0, none⟩, 256, mc⟩) := GM
            clear hD hE
            by_cases hi8 : i2 < 8
            · have C1 := hide (show wr.cell? ⟨g5, 0, none⟩ = some (.slice (some ⟨gm, 0, none⟩) 256 mc) from (row_m (unhide ED).r5).trans (by rw [unhide GM3]))
              have DR := hide ((unhide ED).later below_drew)
              go_wp2_with fail
              refine wp_region_held_drew (S := fun w' => w'.cell? ⟨g5, 0, none⟩ = some (.slice (some ⟨gm, 0, none⟩) 256 mc)) (by kernel_rfl) (unhide C1) (fun hS => ?_)
              have HS := hide hS
              clear hS C1
              refine wpAnyH_take (i := 0) (v := .pointer (some ⟨g5, 0, none⟩)) rfl (by kernel_rfl) (by kernel_rfl) (by kernel_rfl) (fun _ _ _ h => h) (Or.inl ⟨by rfl, fun w hc => ?_⟩) (unhide HS) ?_
              · clear hc; go_simp
              go_simp
              refine wpAnyH_take (i := 1) (v := (.slice (some ⟨gm, 0, none⟩) 256 mc)) rfl (by kernel_rfl) (by kernel_rfl) (by kernel_rfl) (fun _ _ _ h => h) (Or.inl ⟨by rfl, fun w hc => ?_⟩) (unhide HS) ?_
              · go_simp
              go_simp
              refine wpAnyH_take (i := 2) (v := .pointer (some ⟨cb, 0, none⟩)) rfl (by kernel_rfl) (by kernel_rfl) (by kernel_rfl) (fun _ _ _ h => h) (Or.inl ⟨by rfl, fun w hc => ?_⟩) (unhide HS) ?_
              · clear hc; go_simp
              go_simp
              refine wpAnyH_take (i := 4) (v := .pointer (some ⟨cb, 0, none⟩)) rfl (by kernel_rfl) (by kernel_rfl) (by kernel_rfl) (fun _ _ _ h => h) (Or.inl ⟨by rfl, fun w hc => ?_⟩) (unhide HS) ?_
              · clear hc; go_simp
              go_simp
              refine wpAnyH_ready (rs := [3, 5]) (by kernel_rfl) (by simp) ?_
              refine AllReadyH.cons rfl (fun K2 hK => ?_) (AllReadyH.cons rfl (fun K2 hK => ?_) AllReadyH.nil)
              · have P := hide (below_any cb a len cap xs 32 wr.drew (by omega) (unhide DR).cur)
                go_simp
                refine (unhide P).mono ?_
                rintro e u1 ⟨bi, hb0, _, rfl, hc1, hg1⟩
                obtain ⟨b0, b1⟩ := hb0 (by omega)
                obtain ⟨b, rfl⟩ := Int.eq_ofNat_of_zero_le b0
                have E1 := hide ((unhide DR).draw hc1 hg1)
                clear hc1 hg1 hb0 P DR
                refine hK.out _ _ ((row_m (unhide E1).r5).trans (by rw [unhide GM3])) (fun hS => ?_)
                clear HS
                have HS := hide hS
                clear hS hK K2
                refine wpAnyH_ready (rs := [5]) (by kernel_rfl) (by simp) ?_
                refine AllReadyH.cons rfl (fun K2 hK => ?_) AllReadyH.nil
                go_simp
                refine hK.out _ _ ((row_m ((unhide E1).alloc (.cells (([0, 2, 100, 64, 65535] : List Int).map (Value.int .i64)).toArray 3)).r5).trans (by rw [unhide GM3])) (fun hS => ?_)
                clear HS
                have HS := hide hS
                clear hS hK K2
                refine wpAnyH_ready (rs := [6]) (by kernel_rfl) (by simp) ?_
                refine AllReadyH.cons rfl (fun K2 hK => ?_) AllReadyH.nil
                have P := hide (int_lit cb a len cap xs u1 (unhide E1).cur [0, 2, 100, 64, 65535] 5 rfl (by omega) (by omega) u1.heap.size rfl _ rfl)
                go_simp
                refine (unhide P).mono ?_
                rintro e u2 ⟨j, hj, rfl, hc2, hg2⟩
                have vb := lit_bd5 j hj
                generalize nAt [0, 2, 100, 64, 65535] j = v at vb ⊢
                have E2 := hide (((unhide E1).alloc (.cells (([0, 2, 100, 64, 65535] : List Int).map (Value.int .i64)).toArray 3)).draw hc2 hg2)
                clear hc2 hg2 hj P E1
                refine hK.out _ _ ((row_m (unhide E2).r5).trans (by rw [unhide GM3])) (fun hS => ?_)
                clear HS
                have HS := hide hS
                clear hS hK K2
                have b32 : (b : Int) < 256 := by omega
                refine wpAnyH_take (i := 7) (v := .pointer (some ⟨gm, b, none⟩)) rfl (by kernel_rfl) (by kernel_rfl) (by kernel_rfl) (fun _ _ _ h => h) (Or.inl ⟨by rfl, fun w hc => ?_⟩) (unhide HS) ?_
                · clear hc; go_simp
                go_simp
                refine wpAnyH_ready (rs := [8]) (by kernel_rfl) (by simp) ?_
                refine AllReadyH.cons rfl (fun K2 hK => ?_) AllReadyH.nil
                obtain ⟨cm1, cm2⟩ := (unhide E2).cellM (unhide GM3) b (by have := (unhide DK).ml; omega)
                have E3 := hide ((unhide E2).setM (unhide GM3) b v (by have := (unhide DK).ml; omega))
                have D3 := hide ((unhide DK).setM b v vb.1 vb.2)
                go_simp
                refine hK.out _ _ ((row_m (unhide E3).r5).trans (by rw [unhide GM3])) (fun hS => ?_)
                clear HS
                have HS := hide hS
                clear hS hK K2
                clear cm1 cm2 HS E2 b32
                refine wpAnyH_done (by kernel_rfl) ?_ _
                generalize (Md.mk (d2.m.set b v) d2.r d2.i d2.o) = d3 at E3 D3
                generalize u2.setCell ⟨gm, b, none⟩ (Value.int .i64 v) = wz at E3 ⊢
                have C1 := hide (show wz.cell? ⟨g5, 0, none⟩ = some (.slice (some ⟨gm, 0, none⟩) 256 mc) from (row_m (unhide E3).r5).trans (by rw [unhide GM3]))
                have DZ := hide ((unhide E3).later below_drew)
                clear vb
                go_wp2_with fail
                refine wp_region_held_drew (S := fun w' => w'.cell? ⟨g5, 0, none⟩ = some (.slice (some ⟨gm, 0, none⟩) 256 mc)) (by kernel_rfl) (unhide C1) (fun hS => ?_)
                have HS := hide hS
                clear hS C1 E3
                refine wpAnyH_take (i := 0) (v := .pointer (some ⟨g5, 0, none⟩)) rfl (by kernel_rfl) (by kernel_rfl) (by kernel_rfl) (fun _ _ _ h => h) (Or.inl ⟨by rfl, fun w hc => ?_⟩) (unhide HS) ?_
                · clear hc; go_simp
                go_simp
                refine wpAnyH_take (i := 1) (v := (.slice (some ⟨gm, 0, none⟩) 256 mc)) rfl (by kernel_rfl) (by kernel_rfl) (by kernel_rfl) (fun _ _ _ h => h) (Or.inl ⟨by rfl, fun w hc => ?_⟩) (unhide HS) ?_
                · go_simp
                go_simp
                refine wpAnyH_take (i := 2) (v := .pointer (some ⟨cb, 0, none⟩)) rfl (by kernel_rfl) (by kernel_rfl) (by kernel_rfl) (fun _ _ _ h => h) (Or.inl ⟨by rfl, fun w hc => ?_⟩) (unhide HS) ?_
                · clear hc; go_simp
                go_simp
                refine wpAnyH_take (i := 5) (v := .pointer (some ⟨cb, 0, none⟩)) rfl (by kernel_rfl) (by kernel_rfl) (by kernel_rfl) (fun _ _ _ h => h) (Or.inl ⟨by rfl, fun w hc => ?_⟩) (unhide HS) ?_
                · clear hc; go_simp
                go_simp
                refine wpAnyH_ready (rs := [3]) (by kernel_rfl) (by simp) ?_
                refine AllReadyH.cons rfl (fun K2 hK => ?_) AllReadyH.nil
                have P := hide (below_any cb a len cap xs 60 wz.drew (by omega) (unhide DZ).cur)
                go_simp
                refine (unhide P).mono ?_
                rintro e u3 ⟨ci, hb0, _, rfl, hc1, hg1⟩
                obtain ⟨c0, c1⟩ := hb0 (by omega)
                obtain ⟨bb, rfl⟩ := Int.eq_ofNat_of_zero_le c0
                have E1 := hide ((unhide DZ).draw hc1 hg1)
                clear hc1 hg1 hb0 P DZ
                refine hK.out _ _ ((row_m (unhide E1).r5).trans (by rw [unhide GM3])) (fun hS => ?_)
                clear HS
                have HS := hide hS
                clear hS hK K2
                have HM := hide (show IntKind.i64.wrap (80 + (bb : Int)) = 80 + (bb : Int) by rw [IntKind.wrap_i64]; omega)
                have HT := hide (show (80 + (bb : Int)).toNat = 80 + bb by omega)
                refine wpAnyH_take (i := 4) (v := .int .i64 (80 + (bb : Int))) rfl (by kernel_rfl) (by kernel_rfl) (by kernel_rfl) (fun _ _ _ h => h) (Or.inl ⟨by rfl, fun w hc => ?_⟩) (unhide HS) ?_
                · clear hc; have hm := unhide HM; go_simp
                go_simp
                refine wpAnyH_ready (rs := [6]) (by kernel_rfl) (by simp) ?_
                refine AllReadyH.cons rfl (fun K2 hK => ?_) AllReadyH.nil
                have P := hide (word_any cb a len cap xs u3 (unhide E1).cur)
                go_simp
                refine (unhide P).mono ?_
                rintro e u4 ⟨x, hx0, hx1, rfl, hc1, hg1⟩
                have E2 := hide ((unhide E1).draw hc1 hg1)
                clear hc1 hg1 P E1
                refine hK.out _ _ ((row_m (unhide E2).r5).trans (by rw [unhide GM3])) (fun hS => ?_)
                clear HS
                have HS := hide hS
                clear hS hK K2
                have b60 : 80 + (bb : Int) < 256 := by omega
                have b61 : ¬ 80 + (bb : Int) < 0 := by omega
                refine wpAnyH_take (i := 7) (v := .pointer (some ⟨gm, 80 + bb, none⟩)) rfl (by kernel_rfl) (by kernel_rfl) (by kernel_rfl) (fun _ _ _ h => h) (Or.inl ⟨by rfl, fun w hc => ?_⟩) (unhide HS) ?_
                · clear hc; have ht := unhide HT; go_simp
                go_simp
                refine wpAnyH_ready (rs := [8]) (by kernel_rfl) (by simp) ?_
                refine AllReadyH.cons rfl (fun K2 hK => ?_) AllReadyH.nil
                obtain ⟨cm1, cm2⟩ := (unhide E2).cellM (unhide GM3) (80 + bb) (by have := (unhide D3).ml; omega)
                have E3 := hide ((unhide E2).setM (unhide GM3) (80 + bb) x (by have := (unhide D3).ml; omega))
                have D4 := hide ((unhide D3).setM (80 + bb) x hx0 hx1)
                go_simp
                refine hK.out _ _ ((row_m (unhide E3).r5).trans (by rw [unhide GM3])) (fun hS => ?_)
                clear HS
                have HS := hide hS
                clear hS hK K2
                clear cm1 cm2 HS E2
                refine wpAnyH_done (by kernel_rfl) ?_ _
                go_wp2
                go_roundw
                case rel => exact ⟨i2 + 1, _, by omega, by go_num, D4, E3⟩
                case measure => simp [intOf]; omega
              · go_simp
                have LR := hide (RdN_lit wr.drew [0, 2, 100, 64, 65535])
                have DA := hide ((unhide DR).alloc (.cells (([0, 2, 100, 64, 65535] : List Int).map (Value.int .i64)).toArray 3))
                refine hK.out _ _ ((row_m (unhide DA).r5).trans (by rw [unhide GM3])) (fun hS => ?_)
                clear HS
                have HS := hide hS
                clear hS hK K2
                refine wpAnyH_ready (rs := [3]) (by kernel_rfl) (by simp) ?_
                refine AllReadyH.cons rfl (fun K2 hK => ?_) AllReadyH.nil
                have P := hide (below_any cb a len cap xs 32 (wr.drew.alloc (.cells (([0, 2, 100, 64, 65535] : List Int).map (Value.int .i64)).toArray 3)) (by omega) (unhide DA).cur)
                go_simp
                refine (unhide P).mono ?_
                rintro e u1 ⟨bi, hb0, _, rfl, hc1, hg1⟩
                obtain ⟨b0, b1⟩ := hb0 (by omega)
                obtain ⟨b, rfl⟩ := Int.eq_ofNat_of_zero_le b0
                have E1 := hide ((unhide DA).draw hc1 hg1)
                have LR1 := hide ((unhide LR).past hg1 (fun ad e => by cases e; have h1 := (unhide DR).lt; have h2 := (unhide DR).gr.size; show wr.drew.heap.size ≠ cb; omega))
                have NE := hide (show ∀ ad, (some (⟨wr.heap.size, 0, none⟩ : Addr)) = some ad → ad.block ≠ cb from fun ad e => by cases e; have h1 := (unhide DR).lt; have h2 := (unhide DR).gr.size; show wr.drew.heap.size ≠ cb; omega)
                clear hc1 hg1 hb0 P DA LR
                refine hK.out _ _ ((row_m (unhide E1).r5).trans (by rw [unhide GM3])) (fun hS => ?_)
                clear HS
                have HS := hide hS
                clear hS hK K2
                refine wpAnyH_ready (rs := [6]) (by kernel_rfl) (by simp) ?_
                refine AllReadyH.cons rfl (fun K2 hK => ?_) AllReadyH.nil
                have P := hide (int_any cb a len cap xs (some ⟨wr.heap.size, 0, none⟩) 5 5 [0, 2, 100, 64, 65535] u1 (unhide E1).cur (unhide LR1) (unhide NE) rfl (by omega) (by omega))
                go_simp
                refine (unhide P).mono ?_
                rintro e u2 ⟨j, hj, rfl, hc2, hg2⟩
                have vb := lit_bd5 j hj
                generalize nAt [0, 2, 100, 64, 65535] j = v at vb ⊢
                have E2 := hide ((unhide E1).draw hc2 hg2)
                clear hc2 hg2 hj P E1 LR1 NE DR
                refine hK.out _ _ ((row_m (unhide E2).r5).trans (by rw [unhide GM3])) (fun hS => ?_)
                clear HS
                have HS := hide hS
                clear hS hK K2
                have b32 : (b : Int) < 256 := by omega
                refine wpAnyH_take (i := 7) (v := .pointer (some ⟨gm, b, none⟩)) rfl (by kernel_rfl) (by kernel_rfl) (by kernel_rfl) (fun _ _ _ h => h) (Or.inl ⟨by rfl, fun w hc => ?_⟩) (unhide HS) ?_
                · clear hc; go_simp
                go_simp
                refine wpAnyH_ready (rs := [8]) (by kernel_rfl) (by simp) ?_
                refine AllReadyH.cons rfl (fun K2 hK => ?_) AllReadyH.nil
                obtain ⟨cm1, cm2⟩ := (unhide E2).cellM (unhide GM3) b (by have := (unhide DK).ml; omega)
                have E3 := hide ((unhide E2).setM (unhide GM3) b v (by have := (unhide DK).ml; omega))
                have D3 := hide ((unhide DK).setM b v vb.1 vb.2)
                go_simp
                refine hK.out _ _ ((row_m (unhide E3).r5).trans (by rw [unhide GM3])) (fun hS => ?_)
                clear HS
                have HS := hide hS
                clear hS hK K2
                clear cm1 cm2 HS E2 b32
                refine wpAnyH_done (by kernel_rfl) ?_ _
                generalize (Md.mk (d2.m.set b v) d2.r d2.i d2.o) = d3 at E3 D3
                generalize u2.setCell ⟨gm, b, none⟩ (Value.int .i64 v) = wz at E3 ⊢
                have C1 := hide (show wz.cell? ⟨g5, 0, none⟩ = some (.slice (some ⟨gm, 0, none⟩) 256 mc) from (row_m (unhide E3).r5).trans (by rw [unhide GM3]))
                have DZ := hide ((unhide E3).later below_drew)
                clear vb
                go_wp2_with fail
                refine wp_region_held_drew (S := fun w' => w'.cell? ⟨g5, 0, none⟩ = some (.slice (some ⟨gm, 0, none⟩) 256 mc)) (by kernel_rfl) (unhide C1) (fun hS => ?_)
                have HS := hide hS
                clear hS C1 E3
                refine wpAnyH_take (i := 0) (v := .pointer (some ⟨g5, 0, none⟩)) rfl (by kernel_rfl) (by kernel_rfl) (by kernel_rfl) (fun _ _ _ h => h) (Or.inl ⟨by rfl, fun w hc => ?_⟩) (unhide HS) ?_
                · clear hc; go_simp
                go_simp
                refine wpAnyH_take (i := 1) (v := (.slice (some ⟨gm, 0, none⟩) 256 mc)) rfl (by kernel_rfl) (by kernel_rfl) (by kernel_rfl) (fun _ _ _ h => h) (Or.inl ⟨by rfl, fun w hc => ?_⟩) (unhide HS) ?_
                · go_simp
                go_simp
                refine wpAnyH_take (i := 2) (v := .pointer (some ⟨cb, 0, none⟩)) rfl (by kernel_rfl) (by kernel_rfl) (by kernel_rfl) (fun _ _ _ h => h) (Or.inl ⟨by rfl, fun w hc => ?_⟩) (unhide HS) ?_
                · clear hc; go_simp
                go_simp
                refine wpAnyH_take (i := 5) (v := .pointer (some ⟨cb, 0, none⟩)) rfl (by kernel_rfl) (by kernel_rfl) (by kernel_rfl) (fun _ _ _ h => h) (Or.inl ⟨by rfl, fun w hc => ?_⟩) (unhide HS) ?_
                · clear hc; go_simp
                go_simp
                refine wpAnyH_ready (rs := [3]) (by kernel_rfl) (by simp) ?_
                refine AllReadyH.cons rfl (fun K2 hK => ?_) AllReadyH.nil
                have P := hide (below_any cb a len cap xs 60 wz.drew (by omega) (unhide DZ).cur)
                go_simp
                refine (unhide P).mono ?_
                rintro e u3 ⟨ci, hb0, _, rfl, hc1, hg1⟩
                obtain ⟨c0, c1⟩ := hb0 (by omega)
                obtain ⟨bb, rfl⟩ := Int.eq_ofNat_of_zero_le c0
                have E1 := hide ((unhide DZ).draw hc1 hg1)
                clear hc1 hg1 hb0 P DZ
                refine hK.out _ _ ((row_m (unhide E1).r5).trans (by rw [unhide GM3])) (fun hS => ?_)
                clear HS
                have HS := hide hS
                clear hS hK K2
                have HM := hide (show IntKind.i64.wrap (80 + (bb : Int)) = 80 + (bb : Int) by rw [IntKind.wrap_i64]; omega)
                have HT := hide (show (80 + (bb : Int)).toNat = 80 + bb by omega)
                refine wpAnyH_take (i := 4) (v := .int .i64 (80 + (bb : Int))) rfl (by kernel_rfl) (by kernel_rfl) (by kernel_rfl) (fun _ _ _ h => h) (Or.inl ⟨by rfl, fun w hc => ?_⟩) (unhide HS) ?_
                · clear hc; have hm := unhide HM; go_simp
                go_simp
                refine wpAnyH_ready (rs := [6]) (by kernel_rfl) (by simp) ?_
                refine AllReadyH.cons rfl (fun K2 hK => ?_) AllReadyH.nil
                have P := hide (word_any cb a len cap xs u3 (unhide E1).cur)
                go_simp
                refine (unhide P).mono ?_
                rintro e u4 ⟨x, hx0, hx1, rfl, hc1, hg1⟩
                have E2 := hide ((unhide E1).draw hc1 hg1)
                clear hc1 hg1 P E1
                refine hK.out _ _ ((row_m (unhide E2).r5).trans (by rw [unhide GM3])) (fun hS => ?_)
                clear HS
                have HS := hide hS
                clear hS hK K2
                have b60 : 80 + (bb : Int) < 256 := by omega
                have b61 : ¬ 80 + (bb : Int) < 0 := by omega
                refine wpAnyH_take (i := 7) (v := .pointer (some ⟨gm, 80 + bb, none⟩)) rfl (by kernel_rfl) (by kernel_rfl) (by kernel_rfl) (fun _ _ _ h => h) (Or.inl ⟨by rfl, fun w hc => ?_⟩) (unhide HS) ?_
                · clear hc; have ht := unhide HT; go_simp
                go_simp
                refine wpAnyH_ready (rs := [8]) (by kernel_rfl) (by simp) ?_
                refine AllReadyH.cons rfl (fun K2 hK => ?_) AllReadyH.nil
                obtain ⟨cm1, cm2⟩ := (unhide E2).cellM (unhide GM3) (80 + bb) (by have := (unhide D3).ml; omega)
                have E3 := hide ((unhide E2).setM (unhide GM3) (80 + bb) x (by have := (unhide D3).ml; omega))
                have D4 := hide ((unhide D3).setM (80 + bb) x hx0 hx1)
                go_simp
                refine hK.out _ _ ((row_m (unhide E3).r5).trans (by rw [unhide GM3])) (fun hS => ?_)
                clear HS
                have HS := hide hS
                clear hS hK K2
                clear cm1 cm2 HS E2
                refine wpAnyH_done (by kernel_rfl) ?_ _
                go_wp2
                go_roundw
                case rel => exact ⟨i2 + 1, _, by omega, by go_num, D4, E3⟩
                case measure => simp [intOf]; omega
            · go_wp2_with (first | (refine wpList_load_row rfl 28 _ rfl g5 rfl 28 (Mv.cs (⟨y.m, y.r, bn, bz, y.v, bc, y.i, y.o, y.st⟩ : Mv)) (0, 0) _ (unhide ED).r5 Try.underlying28 rfl (by kernel_rfl) ?_) | (refine wpList_store_row rfl 28 _ _ rfl w.heap.size (Mv.cs (⟨y.m, y.r, bn, bz, y.v, bc, y.i, y.o, y.st⟩ : Mv)) rfl rfl 28 zMv.cs (unhide ED).re (by kernel_rfl) rfl (Mv.cs_one _) ?_))
              refine bodyPost_ret (results_cell_row (P := Try.prog) rfl _ _ w.heap.size 28 (Mv.cs (⟨y.m, y.r, bn, bz, y.v, bc, y.i, y.o, y.st⟩ : Mv)) (0, 0) _ rfl (setRow_heap _ _ _ _ 28 _ (unhide ED).re) Try.underlying28 rfl (by kernel_rfl)) rfl ?_
              exact ⟨(⟨y.m, y.r, bn, bz, y.v, bc, y.i, y.o, y.st⟩ : Mv), rfl, unhide Y0, d2, unhide DK, (unhide ED).own.row (by omega) _, (unhide ED).cur.past (grownBy_setRow _) (unhide ED).lt (unhide ED).cd (fun g e => by cases e; omega), grownBy_own (unhide ED).gr (grownBy_setRow _) (fun g e => by cases e; omega)⟩
    · have hkp : (0 : Int) < (k : Int) := by omega
      have P := hide (word_any cb a len cap xs wr (unhide EI).cur)
      clear hk0
      go_wp2_with fail
      refine (unhide P).mono ?_
      rintro e w3 ⟨x, hx0, hx1, rfl, hc3, hg3⟩
      have E3 := hide ((unhide EI).draw hlt hc3 hg3)
      have A3 := hide (below_new w3 (Obj.cells #[.int .i64 x] 3))
      clear hc3 hg3 P EI
      go_wp2_with (at_builtin; go_must (refine wpList_app rfl _ _ rfl (w.heap.size + 1) (.slice s.a s.n s.c) ns rfl ((unhide E3).own.later (unhide A3)) ⟨some ⟨w3.heap.size, 0, none⟩, 1, 1⟩ [x] rfl (OwnN.rd1 (own_one w3 x)) rfl (fun e => by cases e) (by simp only; omega) (by have := (unhide E3).gr.size; have := row_lt (unhide E3).re; have := (unhide A3).size; omega) ?_; intro v8 w8 hown hgrow; obtain ⟨ta, tn, tc, rfl⟩ : ∃ a n c, v8 = .slice a n c := (by obtain ⟨a, c, e, _⟩ := hown.rd; exact ⟨_, _, _, e⟩); have HOWN := hide hown; have HGROW := hide hgrow; clear hown hgrow))
      have hgrow := unhide HGROW
      have e4 := (unhide E3).later hlt (unhide A3)
      have hgo : ∀ q, (Value.slice s.a s.n s.c).ownBlock = some q → w.heap.size < q := fun q e => by have := ((unhide E3).own.lt (g := q) e).1; omega
      have E8 := hide (show Ei w w8 cb a len cap xs ⟨ta, tn, tc⟩ (ns ++ [x]) from ⟨e4.cur.past hgrow hlt (unhide CD) (fun g e => by have := hgo g e; omega), grownBy_own e4.gr hgrow (fun g e => by have := hgo g e; omega), row_gb e4.re hgrow (fun b e => by have := hgo b e; omega), unhide HOWN, e4.wd.app (fun z hz => by simp at hz; omega)⟩)
      clear HOWN HGROW hgrow hgo e4 E3 A3
      go_wp2
      go_roundw
      case rel => exact ⟨k - 1, ⟨ta, tn, tc⟩, ns ++ [x], by omega, by go_num, rfl, by rw [List.length_append]; simp; omega, E8⟩
      case measure => simp [intOf]; omega
end Go.Proofs.Ytfkmibgamkignaa

namespace Go.Proofs.Ytfkmibgamkignaa
open Go.ChangeShapes Go.WideShapes Go.ChangeAt Go.RowKit
set_option linter.unusedVariables false
set_option maxRecDepth 8000
set_option linter.unusedSimpArgs false

set_option maxHeartbeats 2000000 in
theorem sameM_any (x y : Mv) (d : Md) (w : World) (hf : y.fl = x.fl) (hs : x.small) (hx : RdM w x d) (hy : RdM w y d) : Calls Try.prog 18 #[.agg x.cs, .agg y.cs] w fun e w' => e = .returned (.bool true) ∧ Below w.heap.size w w' := by
  have T := hide (tw_new w x y)
  have X := hide (hx.later (unhide T).bel)
  have Y := hide (hy.later (unhide T).bel)
  have p0 : x.cs[0]? = some (.slice x.m.a x.m.n x.m.c) := rfl
  have q0 : y.cs[0]? = some (.slice y.m.a x.m.n y.m.c) := by rw [← hx.ml, hy.ml]; rfl
  have E := hide (sameInts_any x.m.a y.m.a x.m.n x.m.c y.m.c d.m _ hx.ml (by have := hs.1; omega) (unhide X).m (unhide Y).m)
  have F := hide hf
  have S := hide hs
  clear hf hs hx hy
  go_enter Try.func18, Try.ntmps18
  go_wp2_with fail
  refine (unhide E).mono ?_
  rintro e w1 ⟨rfl, hb⟩
  have T1 := hide ((unhide T).later hb)
  have X1 := hide ((unhide X).later hb)
  have Y1 := hide ((unhide Y).later hb)
  clear hb T X Y E p0 q0
  have p0 := row_r (unhide T1).bx
  have q0 : w1.cell? ⟨w.heap.size + 1, 1, none⟩ = some (.slice y.r.a x.r.n y.r.c) := by rw [← (unhide X1).rl, (unhide Y1).rl]; exact row_r (unhide T1).by'
  have E := hide (sameInts_any x.r.a y.r.a x.r.n x.r.c y.r.c d.r _ (unhide X1).rl (by have := (unhide S).2.1; omega) (unhide X1).r (unhide Y1).r)
  go_wp2_with fail
  refine (unhide E).mono ?_
  rintro e w2 ⟨rfl, hb⟩
  have T := hide ((unhide T1).later hb)
  have X := hide ((unhide X1).later hb)
  have Y := hide ((unhide Y1).later hb)
  clear hb T1 X1 Y1 E p0 q0
  have p2 := row_n (unhide T).bx
  have q2 := (row_n (unhide T).by').trans (by rw [fl_n (unhide F)])
  have p3 := row_z (unhide T).bx
  have q3 := (row_z (unhide T).by').trans (by rw [fl_z (unhide F)])
  have p4 := row_v (unhide T).bx
  have q4 := (row_v (unhide T).by').trans (by rw [fl_v (unhide F)])
  have p5 := row_c (unhide T).bx
  have q5 := (row_c (unhide T).by').trans (by rw [fl_c (unhide F)])
  have p0 := row_i (unhide T).bx
  have q0 : w2.cell? ⟨w.heap.size + 1, 6, none⟩ = some (.slice y.i.a x.i.n y.i.c) := by rw [← (unhide X).il, (unhide Y).il]; exact row_i (unhide T).by'
  have E := hide (sameInts_any x.i.a y.i.a x.i.n x.i.c y.i.c d.i _ (unhide X).il (by have := (unhide S).2.2.1; omega) (unhide X).i (unhide Y).i)
  go_wp2_with fail
  refine (unhide E).mono ?_
  rintro e w3 ⟨rfl, hb⟩
  have T1 := hide ((unhide T).later hb)
  have X1 := hide ((unhide X).later hb)
  have Y1 := hide ((unhide Y).later hb)
  clear hb T X Y E p0 q0 p2 q2 p3 q3 p4 q4 p5 q5
  have p0 := row_o (unhide T1).bx
  have q0 : w3.cell? ⟨w.heap.size + 1, 7, none⟩ = some (.slice y.o.a x.o.n y.o.c) := by rw [← (unhide X1).ol, (unhide Y1).ol]; exact row_o (unhide T1).by'
  have E := hide (sameInts_any x.o.a y.o.a x.o.n x.o.c y.o.c d.o _ (unhide X1).ol (by have := (unhide S).2.2.2; omega) (unhide X1).o (unhide Y1).o)
  go_wp2_with fail
  refine (unhide E).mono ?_
  rintro e w4 ⟨rfl, hb⟩
  have T := hide ((unhide T1).later hb)
  clear hb T1 X1 Y1 E p0 q0
  have p8 := row_st (unhide T).bx
  have q8 := (row_st (unhide T).by').trans (by rw [fl_st (unhide F)])
  go_wp2
  go_ret
  exact ⟨rfl, (unhide T).bel⟩

set_option maxHeartbeats 2000000 in
theorem drawMach_any (a : Option Addr) (len cap : Nat) (xs : List UInt8) (w : World) (hl : xs.length = len) (hm : len ≤ 1048576) (hr : Rd w a xs) :
    Calls Try.prog 14 #[.slice a len cap] w fun e w' => ∃ (x : Mv) (d : Md), e = .returned (.agg x.cs) ∧ x.st = 0 ∧ Dk d ∧ OwnM w' (w.heap.size + 1) x d ∧ Below w.heap.size w w' := by
  have b0 := below_new w (.cells #[Value.slice none 0 0, Value.slice none 0 0, Value.bool false, Value.bool false, Value.bool false, Value.bool false, Value.slice none 0 0, Value.slice none 0 0, Value.int .i64 0] 28)
  have P := hide (new_any a len cap xs (w.alloc (.cells #[Value.slice none 0 0, Value.slice none 0 0, Value.bool false, Value.bool false, Value.bool false, Value.bool false, Value.slice none 0 0, Value.slice none 0 0, Value.int .i64 0] 28)) hl hm (hr.later b0))
  rw [show (w.alloc (.cells #[Value.slice none 0 0, Value.slice none 0 0, Value.bool false, Value.bool false, Value.bool false, Value.bool false, Value.slice none 0 0, Value.slice none 0 0, Value.int .i64 0] 28)).heap.size = w.heap.size + 1 by simp] at P
  have R0 := hide (show (w.alloc (.cells #[Value.slice none 0 0, Value.slice none 0 0, Value.bool false, Value.bool false, Value.bool false, Value.bool false, Value.slice none 0 0, Value.slice none 0 0, Value.int .i64 0] 28)).heap[w.heap.size]? = some (.cells zMv.cs 28 (0, 0)) from heap_alloc_last w _)
  have B0 := hide b0
  clear hr b0
  go_enter Try.func14, Try.ntmps14
  go_wp2_with fail
  refine (unhide P).mono ?_
  rintro e w1 ⟨rfl, hc1, hb1⟩
  have R1 := hide ((hb1.block w.heap.size (by omega)).trans (unhide R0))
  have B1 := hide ((unhide B0).trans (hb1.mono (by omega)))
  have s1 := hc1.lt
  clear P
  have P := hide (draw5_any (w.heap.size + 1) a len cap xs w1 hc1)
  clear hc1 hb1 R0 B0
  go_wp2_with fail
  refine (unhide P).mono ?_
  rintro e w2 ⟨x, d, rfl, hst, hD, oy, hc2, hg2⟩
  have R2 := hide (row_gb (unhide R1) hg2 (fun b e => by cases e; omega))
  have B2 := hide ((unhide B1).grown hg2 (unhide B1).size (fun b e => by cases e; omega))
  have O2 := hide (oy.base (C := w.heap.size + 1) (by omega))
  have ST := hide hst
  have DK := hide hD
  clear hst hD oy hc2 hg2 P R1 B1
  go_wp2_with (refine wpList_store_row rfl 28 _ _ rfl w.heap.size x.cs rfl rfl 28 zMv.cs (unhide R2) (by kernel_rfl) rfl (Mv.cs_one _) ?_)
  refine bodyPost_ret (results_cell_row (P := Try.prog) rfl _ _ w.heap.size 28 x.cs (0, 0) _ rfl (setRow_heap _ _ _ _ 28 _ (unhide R2)) Try.underlying28 rfl (by kernel_rfl)) rfl ?_
  exact ⟨x, d, rfl, unhide ST, unhide DK, (unhide O2).row (by omega) _, below_setRow (unhide B2) (Nat.le_refl _) _⟩
end Go.Proofs.Ytfkmibgamkignaa

namespace Go.Proofs.Ytfkmibgamkignaa
open Go.ChangeShapes Go.WideShapes Go.ChangeAt Go.RowKit
set_option linter.unusedVariables false
set_option maxRecDepth 8000
set_option linter.unusedSimpArgs false

/-- The cursor, and the place of an answer, while draws go on. -/
structure Er (w wr : World) (cb : Nat) (a : Option Addr) (len cap : Nat) (xs : List UInt8) (z : Array Value) (t : TypeId) : Prop where
  cur : Cur wr cb a len cap xs
  gr : w.grownBy wr (some cb)
  re : wr.heap[w.heap.size]? = some (.cells z t (0, 0))
  lt : cb < w.heap.size
  cd : xs = [] ∨ ∀ ad, a = some ad → ad.block < w.heap.size
section
variable {w wr w' : World} {cb : Nat} {a : Option Addr} {len cap : Nat} {xs : List UInt8} {z : Array Value} {t : TypeId}
theorem er_new (h : Cur w cb a len cap xs) (z : Array Value) (t : TypeId) : Er w (w.alloc (.cells z t)) cb a len cap xs z t := ⟨h.later (below_new w _), grownBy_below (below_new w _), heap_alloc_last w _, h.lt, h.code⟩
theorem Er.draw (h : Er w wr cb a len cap xs z t) (hc : Cur w' cb a len cap xs) (hg : wr.grownBy w' (some cb)) : Er w w' cb a len cap xs z t := ⟨hc, h.gr.trans hg, row_past h.re hg (by have := h.lt; omega), h.lt, h.cd⟩
theorem Er.store (h : Er w wr cb a len cap xs z t) (c : Array Value) : Er w (wr.setRow w.heap.size c) cb a len cap xs c t :=
  ⟨h.cur.past (grownBy_setRow c) h.lt h.cd (fun g e => by cases e; exact Nat.le_refl _), grownBy_own h.gr (grownBy_setRow c) (fun b e => by cases e; exact Nat.le_refl _), setRow_heap wr _ _ _ t _ h.re, h.lt, h.cd⟩
theorem Er.later (h : Er w wr cb a len cap xs z t) (hb : Below wr.heap.size wr w') : Er w w' cb a len cap xs z t := ⟨h.cur.later hb, grown_below h.gr hb, row_lat h.re hb, h.lt, h.cd⟩
end


set_option maxHeartbeats 4000000 in
theorem draw6_any (cb : Nat) (a : Option Addr) (len cap : Nat) (xs : List UInt8) (w : World) (hc : Cur w cb a len cap xs) :
    Calls Try.prog 72 #[.pointer (some ⟨cb, 0, none⟩)] w fun e w' => ∃ r p : Int, e = .returned (.agg #[.int .i64 r, .int .i64 p]) ∧ Cur w' cb a len cap xs ∧ w.grownBy w' (some cb) := by
  have E0 := hide (er_new hc #[.int .i64 0, .int .i64 0] 44)
  have I0 := hide (once_any cb a len cap xs 2 _ (by omega) (unhide E0).cur)
  clear hc
  go_enter Try.func72, Try.ntmps72
  go_wp2_with fail
  refine (unhide I0).mono ?_
  rintro e w1 ⟨b, rfl, hc1, hg1⟩
  have E1 := hide ((unhide E0).draw hc1 hg1)
  clear hc1 hg1 E0 I0
  cases b
  · have A := hide (addr_any cb a len cap xs w1 (unhide E1).cur)
    go_wp2_with fail
    refine (unhide A).mono ?_
    rintro e w2 ⟨x, rfl, hc2, hg2⟩
    have E2 := hide ((unhide E1).draw hc2 hg2)
    clear hc2 hg2 A E1
    go_wp2_with (refine wpList_store_row rfl 44 _ _ rfl w.heap.size #[.int .i64 (-1), .int .i64 x] rfl rfl 44 #[.int .i64 0, .int .i64 0] (unhide E2).re (by kernel_rfl) rfl (by simp [Value.oneCell']) ?_)
    have E3 := (unhide E2).store #[.int .i64 (-1), .int .i64 x]
    refine bodyPost_ret (results_cell_row (P := Try.prog) rfl _ _ w.heap.size 44 #[.int .i64 (-1), .int .i64 x] (0, 0) _ rfl E3.re Try.underlying44 rfl (by kernel_rfl)) rfl ?_
    exact ⟨_, _, rfl, E3.cur, E3.gr⟩
  · have I1 := hide (int_lit cb a len cap xs w1 (unhide E1).cur [0, 5, 7, 8] 4 rfl (by omega) (by omega) w1.heap.size rfl _ rfl)
    go_wp2_with fail
    refine (unhide I1).mono ?_
    rintro e w2 ⟨j1, hj1, rfl, hc2, hg2⟩
    generalize nAt [0, 5, 7, 8] j1 = r
    have E2 := hide (((unhide E1).later (below_new w1 _)).draw hc2 hg2)
    clear hc2 hg2 I1 E1 hj1
    have I2 := hide (int_lit cb a len cap xs w2 (unhide E2).cur [-1, -1, -1, 0] 4 rfl (by omega) (by omega) w2.heap.size rfl _ rfl)
    go_wp2_with fail
    refine (unhide I2).mono ?_
    rintro e w3 ⟨j1, hj1, rfl, hc2, hg2⟩
    generalize nAt [-1, -1, -1, 0] j1 = p
    have E3 := hide (((unhide E2).later (below_new w2 _)).draw hc2 hg2)
    clear hc2 hg2 I2 E2 hj1
    go_wp2_with (refine wpList_store_row rfl 44 _ _ rfl w.heap.size #[.int .i64 r, .int .i64 p] rfl rfl 44 #[.int .i64 0, .int .i64 0] (unhide E3).re (by kernel_rfl) rfl (by simp [Value.oneCell']) ?_)
    have E4 := (unhide E3).store #[.int .i64 r, .int .i64 p]
    refine bodyPost_ret (results_cell_row (P := Try.prog) rfl _ _ w.heap.size 44 #[.int .i64 r, .int .i64 p] (0, 0) _ rfl E4.re Try.underlying44 rfl (by kernel_rfl)) rfl ?_
    exact ⟨_, _, rfl, E4.cur, E4.gr⟩
end Go.Proofs.Ytfkmibgamkignaa
