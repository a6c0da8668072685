/- Contracts of chapter 4's model (Encode), over a trial's translation; conditions stand as hypotheses of each. -/
import Derived.Test.YtfkmibgamkignaaCodeA
import Derived.Maps.AppendAt
namespace Go.Proofs.Ytfkmibgamkignaa
open Go.ChangeShapes Go.WideShapes Go.ChangeAt Go.RowKit
set_option linter.unusedVariables false
set_option maxRecDepth 8000

def Is.code (i : Is) : Int :=
  if i.op ≤ 6 then baseAt i.op.toNat + i.s.six * 64 + i.d.six
  else if i.op ≤ 14 then baseAt i.op.toNat + i.d.six
  else if i.op = 15 then baseAt i.op.toNat + i.n * 64 + i.d.six
  else if i.op = 16 ∨ i.op = 23 then baseAt i.op.toNat + i.n
  else if i.op ≤ 21 then baseAt i.op.toNat + i.n % 256
  else baseAt i.op.toNat
def Is.xs (i : Is) : List Int := (if i.op ≤ 6 ∧ i.s.hasX = true then [i.s.x] else []) ++ (if i.op ≤ 15 ∧ i.d.hasX = true then [i.d.x] else [])
def Is.enc (i : Is) : List Int := if i.ok = true then i.code :: i.xs else []

theorem od_ok {o : Od} (h : o.ok = true) : (0 ≤ o.m ∧ o.m ≤ 7 ∧ 0 ≤ o.r ∧ o.r ≤ 7) ∧ 0 ≤ o.x ∧ o.x ≤ 65535 ∧ (o.hasX = true ∨ o.x = 0) := by
  unfold Od.ok inB at h
  simp only [Bool.and_eq_true, Bool.or_eq_true, decide_eq_true_eq, beq_iff_eq] at h
  obtain ⟨⟨⟨⟨h1, h2⟩, h3, h4⟩, h5, h6⟩, h7⟩ := h
  exact ⟨⟨h1, h2, h3, h4⟩, h5, h6, h7⟩
theorem od_zero {o : Od} (h : o.zero = true) : o.m = 0 ∧ o.r = 0 ∧ o.x = 0 := by
  unfold Od.zero at h
  simpa using h
theorem is_ok {i : Is} (h : i.ok = true) : (1 ≤ i.op ∧ i.op ≤ 23) ∧ (i.op ≤ 6 → i.s.ok = true) ∧ (i.op ≤ 15 → i.d.ok = true) ∧ (6 < i.op → i.s.zero = true) ∧ (15 < i.op → i.d.zero = true) ∧ (-128 ≤ i.n ∧ i.n ≤ 255) ∧ ((i.op ≤ 14 ∨ i.op = 22) → i.n = 0) ∧ ((i.op = 15 ∨ i.op = 16) → 0 ≤ i.n ∧ i.n ≤ 7) ∧ (17 ≤ i.op ∧ i.op ≤ 21 → i.n ≤ 127) ∧ (i.op = 23 → 0 ≤ i.n) := by
  unfold Is.ok at h
  simp only [inB, Bool.and_eq_true, decide_eq_true_eq, beq_iff_eq, Bool.or_eq_true, Bool.not_eq_true'] at h
  split at h
  · simp only [Bool.and_eq_true, beq_iff_eq] at h
    obtain ⟨⟨h1, h2⟩, h3⟩ := h
    refine ⟨by omega, fun _ => h1, fun _ => h2, fun _ => by omega, fun _ => by omega, by omega, fun _ => h3, fun _ => by omega, fun _ => by omega, fun _ => by omega⟩
  split at h
  · simp only [Bool.and_eq_true, beq_iff_eq] at h
    obtain ⟨⟨h1, h2⟩, h3⟩ := h
    refine ⟨by omega, fun _ => by omega, fun _ => h2, fun _ => h1, fun _ => by omega, by omega, fun _ => h3, fun _ => by omega, fun _ => by omega, fun _ => by omega⟩
  split at h
  · simp only [Bool.and_eq_true, decide_eq_true_eq] at h
    obtain ⟨⟨h1, h2⟩, h3⟩ := h
    refine ⟨by omega, fun _ => by omega, fun _ => h2, fun _ => h1, fun _ => by omega, by omega, fun _ => by omega, fun _ => by omega, fun _ => by omega, fun _ => by omega⟩
  split at h
  · cases h
  rename_i hz
  have hs : i.s.zero = true := by cases e : i.s.zero <;> simp_all
  have hd : i.d.zero = true := by cases e : i.d.zero <;> simp_all
  clear hz
  split at h
  · simp only [Bool.and_eq_true, decide_eq_true_eq] at h
    refine ⟨by omega, fun _ => by omega, fun _ => by omega, fun _ => hs, fun _ => hd, by omega, fun _ => by omega, fun _ => by omega, fun _ => by omega, fun _ => by omega⟩
  split at h
  · simp only [Bool.and_eq_true, decide_eq_true_eq] at h
    refine ⟨by omega, fun _ => by omega, fun _ => by omega, fun _ => hs, fun _ => hd, by omega, fun _ => by omega, fun _ => by omega, fun _ => by omega, fun _ => by omega⟩
  split at h
  · simp only [beq_iff_eq] at h
    refine ⟨by omega, fun _ => by omega, fun _ => by omega, fun _ => hs, fun _ => hd, by omega, fun _ => by omega, fun _ => by omega, fun _ => by omega, fun _ => by omega⟩
  split at h
  · simp only [Bool.and_eq_true, decide_eq_true_eq] at h
    refine ⟨by omega, fun _ => by omega, fun _ => by omega, fun _ => hs, fun _ => hd, by omega, fun _ => by omega, fun _ => by omega, fun _ => by omega, fun _ => by omega⟩
  · cases h

theorem alloc_cell {w : World} {p : Addr} {v : Value} (h : w.cell? p = some v) (o : Obj) : (w.alloc o).cell? p = some v :=
  ((Below.refl w.heap.size w).alloc (Nat.le_refl _) o).cell (World.block_lt_of_cell? w _ h) |>.trans h
theorem box_step {B : Nat} {W w1 w2 : World} (h : Below B W w1) (hz : W.heap.size = B) (hb : Below w1.heap.size w1 w2) : Below B W w2 := h.trans (hb.mono (by have := h.size; omega))
theorem box_stepd {B : Nat} {W w1 w2 : World} (h : Below B W w1) (hz : W.heap.size = B) (hb : Below w1.drew.heap.size w1.drew w2) : Below B W w2 := box_step h hz ⟨hb.os, hb.tape, hb.output, hb.size, hb.block⟩
theorem box_app {B C : Nat} {W w3 w4 : World} {v : Value} {ns : List Int} (h : Below B W w3) (hz : W.heap.size = B) (o : Obj) (hg : (w3.alloc o).grownBy w4 v.ownBlock) (ho : OwnN w3 C v ns) (hC : B ≤ C) : Below B W w4 :=
  (h.alloc (by have := h.size; omega) o).grown hg (by have := h.size; simp; omega) (fun k e => Nat.le_trans hC (ho.lt e).1)
theorem own_one (w : World) (x : Int) : OwnN (w.alloc (.cells #[.int .i64 x] 3)) w.heap.size (.slice (some ⟨w.heap.size, 0, none⟩) 1 1) [x] :=
  ⟨rfl, .inr ⟨w.heap.size, 1, _, rfl, Nat.le_refl _, Array.getElem?_push_size, Nat.le_refl _, by unfold maxLen; omega, rfl, rfl⟩⟩
end Go.Proofs.Ytfkmibgamkignaa
