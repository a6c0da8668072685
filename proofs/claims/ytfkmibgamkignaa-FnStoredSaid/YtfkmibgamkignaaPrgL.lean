/- What stands in a place: the program's answer, where there are no more registers than eight; over this seat's translation; conditions stand as hypotheses of each. -/
import Derived.Test.YtfkmibgamkignaaPrgK
namespace Go.Proofs.Ytfkmibgamkignaa
open Go.ChangeShapes Go.WideShapes Go.ChangeAt Go.RowKit
set_option linter.unusedVariables false
set_option maxRecDepth 8000
set_option linter.unusedSimpArgs false

theorem rch_cases (g gr : Nat) (d : Md) (r a : Int) (h8 : d.r.length ≤ 8) :
    (∃ k : Nat, r = (k : Int) ∧ a = -1 ∧ k < d.r.length ∧ rchI g gr d r a = some ⟨gr, k, none⟩ ∧ d.ldB r a = true ∧ d.ldV r a = nAt d.r k) ∨
    (r = -1 ∧ d.has a = true ∧ rchI g gr d r a = some ⟨g, (a / 2).toNat, none⟩ ∧ d.ldB r a = true ∧ d.ldV r a = d.get a) ∨
    (rchI g gr d r a = none ∧ d.ldB r a = false ∧ d.ldV r a = 0) := by
  by_cases h1 : r = -1
  · subst h1
    have e1 : regB d.r.length (-1) = false := by unfold regB; simp
    cases hq : d.has a
    · refine .inr (.inr ⟨?_, ?_, ?_⟩)
      · unfold rchI; rw [e1, hq]; simp
      · unfold Md.ldB; rw [if_pos rfl, hq]
      · unfold Md.ldV Md.get; rw [if_pos rfl, hq]; simp
    · refine .inr (.inl ⟨rfl, rfl, ?_, ?_, ?_⟩)
      · unfold rchI; rw [e1, hq]; simp
      · unfold Md.ldB; rw [if_pos rfl, hq]
      · unfold Md.ldV; rw [if_pos rfl]
  · by_cases h2 : a = -1 ∧ regB d.r.length r = true
    · obtain ⟨rfl, h3⟩ := h2
      have h4 := h3
      unfold regB at h4
      simp only [Bool.and_eq_true, decide_eq_true_eq] at h4
      obtain ⟨r0, r1, r2⟩ := h4
      obtain ⟨k, rfl⟩ := Int.eq_ofNat_of_zero_le r0
      have hB : d.ldB (k : Int) (-1) = true := by unfold Md.ldB; rw [if_neg h1]; unfold inB; simp; omega
      refine .inl ⟨k, rfl, rfl, by omega, ?_, hB, ?_⟩
      · unfold rchI; rw [if_pos ⟨rfl, h3⟩]; rfl
      · unfold Md.ldV; rw [if_neg h1, if_pos hB]; rfl
    · have hB : d.ldB r a = false := by
        unfold Md.ldB
        rw [if_neg h1]
        cases hb : (inB r 0 ((d.r.length : Int) - 1) && (a == -1))
        · rfl
        · simp only [Bool.and_eq_true, beq_iff_eq] at hb
          obtain ⟨b1, b2⟩ := hb
          obtain ⟨b3, b4⟩ := inB_b b1
          exact absurd ⟨b2, by unfold regB; simp; omega⟩ h2
      refine .inr (.inr ⟨?_, hB, ?_⟩)
      · unfold rchI; rw [if_neg h2, if_neg (fun h => h1 h.1)]
      · unfold Md.ldV; rw [if_neg h1, hB]; simp
theorem reg_form {w : World} {B : Nat} {y : Mv} {d : Md} (g : Nat) (O : OwnM w B y d) : ∃ gr rc : Nat, (0 < d.r.length → y.r = ⟨some ⟨gr, 0, none⟩, d.r.length, rc⟩) := by
  by_cases h : 0 < d.r.length
  · obtain ⟨gr, rc, e⟩ := sl_formP O.r h
    exact ⟨gr, rc, fun _ => e⟩
  · exact ⟨0, 0, fun h2 => absurd h2 h⟩

set_option maxHeartbeats 4000000 in
theorem loadI_any (x : Mv) (d : Md) (r a : Int) (w : World) (hs : x.small) (hz : x.nz) (hr : RdM w x d) (h8 : d.r.length ≤ 8) :
    Calls Try.prog 26 #[.agg x.cs, .agg #[.int .i64 r, .int .i64 a]] w fun e w' => e = .returned (.tuple #[.int .i64 (d.ldV r a), .bool (d.ldB r a)]) ∧ Below w.heap.size w w' := by
  have B := hide (bp_new w x r a)
  have X0 := hide (hr.later (unhide B).bel)
  have M := hide (machineOf_any x d _ hs hz (unhide X0))
  have S := hide hs
  have H8 := hide h8
  obtain ⟨q, hq⟩ : ∃ q, d.ldB r a = q := ⟨_, rfl⟩
  obtain ⟨v, hv⟩ : ∃ q, d.ldV r a = q := ⟨_, rfl⟩
  rw [hq, hv]
  have HQ := hide hq
  have HV := hide hv
  clear hr hs hz h8 hq hv
  go_enter Try.func26, Try.ntmps26
  go_wp2_with (refine wpList_load_row rfl 28 _ rfl w.heap.size rfl 28 x.cs (0, 0) _ (unhide B).bx Try.underlying28 rfl (by kernel_rfl) ?_)
  refine (unhide M).mono ?_
  rintro e w1 ⟨y, rfl, fy, oy, hb⟩
  have SY := hide (small_of (unhide X0) oy.rd (unhide S))
  have B1 := hide (((unhide B).later hb).later (below_new w1 (.cells (bigA (laidM d.m z256) y) 80)))
  have G1 := hide (heap_alloc_last w1 (.cells (bigA (laidM d.m z256) y) 80))
  have O1 := hide (oy.later (below_new w1 (.cells (bigA (laidM d.m z256) y) 80)))
  obtain ⟨gr, rc, er⟩ := reg_form w1.heap.size oy
  have RE := hide (reach_any w1.heap.size gr rc r a (laidM d.m z256) y d _ (laidM_len z256_len) (unhide G1) oy.rd.ml oy.rd.rl (unhide SY) er)
  have ER := hide er
  clear fy oy hb M X0 B er
  go_wp2_with (first | (refine wpList_alloc60 rfl rfl ?_) | (refine wpList_store60 rfl _ _ rfl (laidM d.m z256) y (laidM_len z256_len) rfl rfl ?_) | (refine wpList_load_row rfl 44 _ rfl (w.heap.size + 1) rfl 44 #[.int .i64 r, .int .i64 a] (0, 0) _ (unhide B1).bp Try.underlying44 rfl (by kernel_rfl) ?_))
  rcases rch_cases w1.heap.size gr d r a (unhide H8) with ⟨k, er1, ea, hk, e1, e2, e3⟩ | ⟨er1, hh, e1, e2, e3⟩ | ⟨e1, e2, e3⟩
  · rw [e1] at RE
    have hq := (unhide HQ).symm.trans e2
    have hv := (unhide HV).symm.trans e3
    clear HQ HV
    subst hq hv
    refine (unhide RE).mono ?_
    rintro e w2 ⟨rfl, hb⟩
    have c1 : w2.cell? ⟨gr, k, none⟩ = some (.int .i64 (nAt d.r k)) := (own_setR ((unhide O1).later hb) (unhide ER (by omega)) k 0 hk).2.2.2.2.1
    have B2 := hide ((unhide B1).later hb).bel
    clear hb e1 e2 e3 ea er1
    go_wp2_with fail
    go_ret2
    exact ⟨rfl, unhide B2⟩
  · rw [e1] at RE
    have hq := (unhide HQ).symm.trans e2
    have hv := (unhide HV).symm.trans e3
    clear HQ HV
    subst hq hv
    refine (unhide RE).mono ?_
    rintro e w2 ⟨rfl, hb⟩
    obtain ⟨ta, tl⟩ := has_t hh
    obtain ⟨t0, t1, _⟩ := adB_t ta
    have c1 : w2.cell? ⟨w1.heap.size, (a / 2).toNat, none⟩ = some (.int .i64 (d.get a)) := by
      rw [cell_of_row w2 _ _ _ 80 _ (row_lat (unhide G1) hb), bigA_mem y (laidM_len z256_len) (by omega), nAt_laid (by omega) (by omega)]
      unfold Md.get
      rw [if_pos hh]
    have B2 := hide ((unhide B1).later hb).bel
    generalize (a / 2).toNat = ka at c1 ⊢
    clear hb e1 e2 e3 er1 hh ta tl t0 t1
    go_wp2_with fail
    go_ret2
    exact ⟨rfl, unhide B2⟩
  · rw [e1] at RE
    have hq := (unhide HQ).symm.trans e2
    have hv := (unhide HV).symm.trans e3
    clear HQ HV
    subst hq hv
    refine (unhide RE).mono ?_
    rintro e w2 ⟨rfl, hb⟩
    have B2 := hide ((unhide B1).later hb).bel
    clear hb e1 e2 e3
    go_wp2_with fail
    go_ret2
    exact ⟨rfl, unhide B2⟩
end Go.Proofs.Ytfkmibgamkignaa
