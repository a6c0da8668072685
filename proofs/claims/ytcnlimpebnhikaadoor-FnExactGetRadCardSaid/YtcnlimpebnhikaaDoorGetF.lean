/- Contracts of the program's threeOf, over this seat's translation; conditions stand as hypotheses of each. -/
import Derived.Test.YtcnlimpebnhikaaDoorGetE
import Derived.Laws.ResultCell
namespace Go.Proofs.YtcnlimpebnhikaaDoor
open Go.ChangeShapes Go.WideShapes Go.ChangeAt Go.RowKit
set_option linter.unusedVariables false

def z3 (w : World) (a b c : Int) : World := (w.alloc (.cells #[.int .i64 0, .int .i64 0, .int .i64 0] 39)).alloc (.cells #[.int .i64 a, .int .i64 b, .int .i64 c] 39)

theorem div_facts (x : Int) : x = 40 * x.tdiv 40 + x.tmod 40 ∧ (0 ≤ x → 0 ≤ x.tmod 40 ∧ x.tmod 40 < 40 ∧ 0 ≤ x.tdiv 40) ∧ (x ≤ 0 → -40 < x.tmod 40 ∧ x.tmod 40 ≤ 0 ∧ x.tdiv 40 ≤ 0) := by
  have h1 := Int.mul_tdiv_add_tmod x 40
  refine ⟨by omega, fun h => ?_, fun h => ?_⟩
  · have e1 := Int.tmod_nonneg 40 h
    have e2 := Int.tmod_lt_of_pos x (show (0 : Int) < 40 by omega)
    exact ⟨e1, e2, by omega⟩
  · have e1 := Int.tmod_nonneg 40 (show 0 ≤ -x by omega)
    have e2 := Int.tmod_lt_of_pos (-x) (show (0 : Int) < 40 by omega)
    have e3 := Int.neg_tmod x 40
    exact ⟨by omega, by omega, by omega⟩

def ThreeEnd (x : Int) (e : Ending) : Prop :=
  ∃ (a b c : Int) (ok : Bool), e = .returned (.tuple #[.agg #[.int .i64 a, .int .i64 b, .int .i64 c], .bool ok]) ∧ (ok = true ↔ WOk x) ∧ (ok = true → a = x / 1600 ∧ b = x / 40 % 40 ∧ c = x % 40)

theorem res22 (tmps : Array Value) (w : World) (g : Nat) (a b c : Int) (h2 : tmps.getD 2 undef = .pointer (some ⟨g, 0, none⟩)) (c0 : w.cell? ⟨g, 0, none⟩ = some (.int .i64 a)) (c1 : w.cell? ⟨g, 1, none⟩ = some (.int .i64 b)) (c2 : w.cell? ⟨g, 2, none⟩ = some (.int .i64 c)) :
    (results Tryd.f22 tmps).run Tryd.prog w = .ok (.tuple #[.agg #[.int .i64 a, .int .i64 b, .int .i64 c], tmps.getD 3 undef]) w := by
  rw [results_cell_tmp rfl, h2]
  go_simp

theorem three_iff (x r1 m1 r2 m2 r3 m3 : Int) (f1 : x = 40 * r1 + m1 ∧ (0 ≤ x → 0 ≤ m1 ∧ m1 < 40 ∧ 0 ≤ r1) ∧ (x ≤ 0 → -40 < m1 ∧ m1 ≤ 0 ∧ r1 ≤ 0)) (f2 : r1 = 40 * r2 + m2 ∧ (0 ≤ r1 → 0 ≤ m2 ∧ m2 < 40 ∧ 0 ≤ r2) ∧ (r1 ≤ 0 → -40 < m2 ∧ m2 ≤ 0 ∧ r2 ≤ 0)) (f3 : r2 = 40 * r3 + m3 ∧ (0 ≤ r2 → 0 ≤ m3 ∧ m3 < 40 ∧ 0 ≤ r3) ∧ (r2 ≤ 0 → -40 < m3 ∧ m3 ≤ 0 ∧ r3 ≤ 0)) :
    (WOk x ↔ ((0 ≤ m1 ∧ m1 ≠ 29) ∧ (0 ≤ m2 ∧ m2 ≠ 29) ∧ (0 ≤ m3 ∧ m3 ≠ 29) ∧ r3 = 0)) ∧ (WOk x → m3 = x / 1600 ∧ m2 = x / 40 % 40 ∧ m1 = x % 40) := by
  unfold WOk
  by_cases h : 0 ≤ x
  · obtain ⟨a1, a2, a3⟩ := f1.2.1 h
    obtain ⟨b1, b2, b3⟩ := f2.2.1 a3
    obtain ⟨c1, c2, c3⟩ := f3.2.1 b3
    have e1 := f1.1
    have e2 := f2.1
    have e3 := f3.1
    have q1 : x / 1600 = r2 := by omega
    have q2 : x / 40 % 40 = m2 := by omega
    have q3 : x % 40 = m1 := by omega
    rw [q1, q2, q3]
    omega
  · obtain ⟨a1, a2, a3⟩ := f1.2.2 (by omega)
    obtain ⟨b1, b2, b3⟩ := f2.2.2 a3
    obtain ⟨c1, c2, c3⟩ := f3.2.2 b3
    have e1 := f1.1
    have e2 := f2.1
    have e3 := f3.1
    refine ⟨⟨fun k => absurd k.1 h, fun k => ?_⟩, fun k => absurd k.1 h⟩
    omega

set_option maxHeartbeats 1000000 in
set_option maxRecDepth 100000 in
theorem threeOf_any (x : Int) (hx : -9223372036854775808 ≤ x ∧ x ≤ 9223372036854775807) (w : World) : Calls Tryd.prog 22 #[.int .i64 x] w fun e w' => ThreeEnd x e ∧ Below w.heap.size w w' := by
  obtain ⟨r1, hr1⟩ : ∃ r, x.tdiv 40 = r := ⟨_, rfl⟩
  obtain ⟨m1, hm1⟩ : ∃ r, x.tmod 40 = r := ⟨_, rfl⟩
  obtain ⟨r2, hr2⟩ : ∃ r, r1.tdiv 40 = r := ⟨_, rfl⟩
  obtain ⟨m2, hm2⟩ : ∃ r, r1.tmod 40 = r := ⟨_, rfl⟩
  obtain ⟨r3, hr3⟩ : ∃ r, r2.tdiv 40 = r := ⟨_, rfl⟩
  obtain ⟨m3, hm3⟩ : ∃ r, r2.tmod 40 = r := ⟨_, rfl⟩
  have f1 := div_facts x
  have f2 := div_facts r1
  have f3 := div_facts r2
  rw [hr1, hm1] at f1
  rw [hr2, hm2] at f2
  rw [hr3, hm3] at f3
  obtain ⟨iff, hdig⟩ := three_iff x r1 m1 r2 m2 r3 m3 f1 f2 f3
  have b1 : -9223372036854775808 ≤ r1 ∧ r1 ≤ 9223372036854775807 := by omega
  have b2 : -9223372036854775808 ≤ r2 ∧ r2 ≤ 9223372036854775807 := by omega
  have b3 : -9223372036854775808 ≤ r3 ∧ r3 ≤ 9223372036854775807 := by omega
  have HDG := hide hdig
  clear f1 f2 f3 hdig
  go_enter Tryd.func22, Tryd.ntmps22
  go_wp2
  go_loopw [5, 6] (fun rest i wr => (rest = .int .i64 x ∧ i = .int .i64 2 ∧ wr = z3 w 0 0 0) ∨ (rest = .int .i64 r1 ∧ i = .int .i64 1 ∧ wr = z3 w 0 0 m1 ∧ Hid (0 ≤ m1 ∧ m1 ≠ 29)) ∨ (rest = .int .i64 r2 ∧ i = .int .i64 0 ∧ wr = z3 w 0 m2 m1 ∧ Hid ((0 ≤ m1 ∧ m1 ≠ 29) ∧ (0 ≤ m2 ∧ m2 ≠ 29))) ∨ (rest = .int .i64 r3 ∧ i = .int .i64 (-1) ∧ wr = z3 w m3 m2 m1 ∧ Hid ((0 ≤ m1 ∧ m1 ≠ 29) ∧ (0 ≤ m2 ∧ m2 ≠ 29) ∧ (0 ≤ m3 ∧ m3 ≠ 29)))) (fun _ i _ => (intOf i + 1).toNat)
  case atStart => exact .inl ⟨rfl, rfl, rfl⟩
  case round =>
    rcases hrel with hrel | hrel | hrel | hrel
    · obtain ⟨rfl, rfl, hw⟩ := hrel
      unfold z3 at hw
      subst hw
      by_cases hneg : m1 < 0
      · have HN := hide (show ¬ WOk x from fun h => by have := iff.1 h; omega)
        clear iff
        go_wp2
        refine bodyPost_ret (res22 _ _ w.heap.size 0 0 0 rfl (by simp) (by simp) (by simp)) rfl ?_
        exact ⟨⟨0, 0, 0, false, rfl, ⟨(fun h => by cases h), fun h => absurd h (unhide HN)⟩, (fun h => by cases h)⟩, ((Below.refl _ _).alloc (Nat.le_refl _) _).alloc (by simp) _⟩
      · have hd : decide (m1 < 0) = false := by simp; omega
        by_cases h29 : m1 = 29
        · have HN := hide (show ¬ WOk x from fun h => by have := iff.1 h; omega)
          have hq : (m1 == 29) = true := by simp [h29]
          clear iff h29
          go_wp2
          refine bodyPost_ret (res22 _ _ w.heap.size 0 0 0 rfl (by simp) (by simp) (by simp)) rfl ?_
          exact ⟨⟨0, 0, 0, false, rfl, ⟨(fun h => by cases h), fun h => absurd h (unhide HN)⟩, (fun h => by cases h)⟩, ((Below.refl _ _).alloc (Nat.le_refl _) _).alloc (by simp) _⟩
        · have hq : (m1 == 29) = false := beq_eq_false_iff_ne.2 h29
          have HK := hide (show 0 ≤ m1 ∧ m1 ≠ 29 from ⟨by omega, h29⟩)
          clear iff h29 hneg
          go_wp2
          go_roundw
          case rel => exact .inr (.inl ⟨rfl, rfl, rfl, unhide HK⟩)
          case measure => simp [intOf]
    · obtain ⟨rfl, rfl, hw, hok⟩ := hrel
      unfold z3 at hw
      subst hw
      by_cases hneg : m2 < 0
      · have HN := hide (show ¬ WOk x from fun h => by have := iff.1 h; omega)
        clear iff
        go_wp2
        refine bodyPost_ret (res22 _ _ w.heap.size 0 0 0 rfl (by simp) (by simp) (by simp)) rfl ?_
        exact ⟨⟨0, 0, 0, false, rfl, ⟨(fun h => by cases h), fun h => absurd h (unhide HN)⟩, (fun h => by cases h)⟩, ((Below.refl _ _).alloc (Nat.le_refl _) _).alloc (by simp) _⟩
      · have hd : decide (m2 < 0) = false := by simp; omega
        by_cases h29 : m2 = 29
        · have HN := hide (show ¬ WOk x from fun h => by have := iff.1 h; omega)
          have hq : (m2 == 29) = true := by simp [h29]
          clear iff h29
          go_wp2
          refine bodyPost_ret (res22 _ _ w.heap.size 0 0 0 rfl (by simp) (by simp) (by simp)) rfl ?_
          exact ⟨⟨0, 0, 0, false, rfl, ⟨(fun h => by cases h), fun h => absurd h (unhide HN)⟩, (fun h => by cases h)⟩, ((Below.refl _ _).alloc (Nat.le_refl _) _).alloc (by simp) _⟩
        · have hq : (m2 == 29) = false := beq_eq_false_iff_ne.2 h29
          have HK := hide (show 0 ≤ m2 ∧ m2 ≠ 29 from ⟨by omega, h29⟩)
          clear iff h29 hneg
          go_wp2
          go_roundw
          case rel => exact .inr (.inr (.inl ⟨rfl, rfl, rfl, hok.out, unhide HK⟩))
          case measure => simp [intOf]
    · obtain ⟨rfl, rfl, hw, hok⟩ := hrel
      unfold z3 at hw
      subst hw
      by_cases hneg : m3 < 0
      · have HN := hide (show ¬ WOk x from fun h => by have := iff.1 h; omega)
        clear iff
        go_wp2
        refine bodyPost_ret (res22 _ _ w.heap.size 0 0 0 rfl (by simp) (by simp) (by simp)) rfl ?_
        exact ⟨⟨0, 0, 0, false, rfl, ⟨(fun h => by cases h), fun h => absurd h (unhide HN)⟩, (fun h => by cases h)⟩, ((Below.refl _ _).alloc (Nat.le_refl _) _).alloc (by simp) _⟩
      · have hd : decide (m3 < 0) = false := by simp; omega
        by_cases h29 : m3 = 29
        · have HN := hide (show ¬ WOk x from fun h => by have := iff.1 h; omega)
          have hq : (m3 == 29) = true := by simp [h29]
          clear iff h29
          go_wp2
          refine bodyPost_ret (res22 _ _ w.heap.size 0 0 0 rfl (by simp) (by simp) (by simp)) rfl ?_
          exact ⟨⟨0, 0, 0, false, rfl, ⟨(fun h => by cases h), fun h => absurd h (unhide HN)⟩, (fun h => by cases h)⟩, ((Below.refl _ _).alloc (Nat.le_refl _) _).alloc (by simp) _⟩
        · have hq : (m3 == 29) = false := beq_eq_false_iff_ne.2 h29
          have HK := hide (show 0 ≤ m3 ∧ m3 ≠ 29 from ⟨by omega, h29⟩)
          clear iff h29 hneg
          go_wp2
          go_roundw
          case rel => exact .inr (.inr (.inr ⟨rfl, by go_num, rfl, hok.out.1, hok.out.2, unhide HK⟩))
          case measure => simp [intOf]
    · obtain ⟨rfl, rfl, hw, hok⟩ := hrel
      unfold z3 at hw
      subst hw
      by_cases h0 : r3 = 0
      · have HW := hide (iff.2 ⟨hok.out.1, hok.out.2.1, hok.out.2.2, h0⟩)
        have hq : (r3 == 0) = true := by simp [h0]
        clear iff h0
        go_wp2
        refine bodyPost_ret (res22 _ _ w.heap.size m3 m2 m1 rfl (by simp) (by simp) (by simp)) rfl ?_
        exact ⟨⟨m3, m2, m1, true, rfl, ⟨fun _ => unhide HW, fun _ => rfl⟩, fun _ => unhide HDG (unhide HW)⟩, ((Below.refl _ _).alloc (Nat.le_refl _) _).alloc (by simp) _⟩
      · have HN := hide (show ¬ WOk x from fun h => h0 (iff.1 h).2.2.2)
        have hq : (r3 == 0) = false := beq_eq_false_iff_ne.2 h0
        clear iff h0
        go_wp2
        refine bodyPost_ret (res22 _ _ w.heap.size m3 m2 m1 rfl (by simp) (by simp) (by simp)) rfl ?_
        exact ⟨⟨m3, m2, m1, false, rfl, ⟨(fun h => by cases h), fun h => absurd h (unhide HN)⟩, (fun h => by cases h)⟩, ((Below.refl _ _).alloc (Nat.le_refl _) _).alloc (by simp) _⟩
end Go.Proofs.YtcnlimpebnhikaaDoor
