/- Contracts of the program's chapter 3 (OpdOk, operandFits, InsOk, Words), over this seat's translation; conditions stand as hypotheses of each. -/
import Derived.Test.YtomoakfemdjpbaaDoorImpA
namespace Go.Proofs.YtomoakfemdjpbaaDoor
open Go.ChangeShapes Go.WideShapes Go.ChangeAt Go.RowKit
set_option linter.unusedVariables false
set_option linter.unusedSimpArgs false

theorem ret_bool {a b : Bool} (h : a = b) : Ending.returned (.bool a) = .returned (.bool b) := by rw [h]
theorem ret_i64 {a b : Int} (h : a = b) : Ending.returned (.int .i64 a) = .returned (.int .i64 b) := by rw [h]

set_option maxHeartbeats 1000000 in
theorem opdOkI_any (o : Od) (w : World) : Calls Tryd.prog 52 #[o.v] w fun e w' => e = .returned (.bool o.ok) ∧ Below w.heap.size w w' := by
  have HX := hide (fun w => hasXI_any o w)
  obtain ⟨m, r, x⟩ := o
  have HR := hide (show ∀ b : Bool, b = Od.ok ⟨m, r, x⟩ → Ending.returned (.bool b) = .returned (.bool (Od.ok ⟨m, r, x⟩)) from fun b h => by rw [h])
  have HF : ∀ q, Od.hasX ⟨m, r, x⟩ = q → Od.ok ⟨m, r, x⟩ = (((inB m 0 7 && inB r 0 7) && inB x 0 65535) && (q || x == 0)) := fun q h => by rw [← h]; rfl
  obtain ⟨q, hq⟩ : ∃ q, Od.hasX ⟨m, r, x⟩ = q := ⟨_, rfl⟩
  have HF2 := hide (HF q hq)
  rw [hq] at HX
  clear hq HF
  have hB := hide ((Below.refl w.heap.size w).alloc (Nat.le_refl _) (Obj.cells #[.int .i64 m, .int .i64 r, .int .i64 x] 25))
  have HS := hide (box_below w (Obj.cells #[.int .i64 m, .int .i64 r, .int .i64 x] 25))
  have hz : w.heap.size + 1 ≤ (w.alloc (Obj.cells #[.int .i64 m, .int .i64 r, .int .i64 x] 25)).heap.size := by simp
  have HZ := hide hz
  clear hz
  have hc : ∀ y : Sub (w.heap.size + 1) (w.alloc (Obj.cells #[.int .i64 m, .int .i64 r, .int .i64 x] 25)), y.w.cell? ⟨w.heap.size, 2, none⟩ = some (.int .i64 x) := fun y => y.cells 2 _ rfl
  unfold Od.v at HX ⊢
  simp only at HX ⊢
  cases h1 : decide (m < 0)
  · cases h2 : decide (7 < m)
    · cases h3 : decide (r < 0)
      · cases h4 : decide (7 < r)
        · go_enter Tryd.func52, Tryd.ntmps52
          go_wp2_with fail
          refine (Sub.call (x := ⟨_, Below.refl _ _⟩) (unhide HZ) (unhide HX _)).mono ?_
          rintro e _ ⟨rfl, y, rfl⟩
          clear HX
          cases q
          · go_wp2
            go_ret
            exact ⟨unhide HR _ (by rw [unhide HF2]; simp at *; simp [inB, *]; omega), unhide HS _ y.h⟩
          · go_wp2_with (go_at_call 64; refine (isWordI_any _ _).mono ?_; rintro e _ ⟨rfl, rfl⟩)
            go_ret
            exact ⟨unhide HR _ (by rw [unhide HF2]; simp at *; simp [inB, *]), unhide HS _ y.h⟩
        · go_enter Tryd.func52, Tryd.ntmps52
          go_wp2
          go_ret
          exact ⟨unhide HR _ (by rw [unhide HF2]; simp at *; simp [inB, *]; omega), unhide hB⟩
      · go_enter Tryd.func52, Tryd.ntmps52
        go_wp2
        go_ret
        exact ⟨unhide HR _ (by rw [unhide HF2]; simp at *; simp [inB, *]; omega), unhide hB⟩
    · go_enter Tryd.func52, Tryd.ntmps52
      go_wp2
      go_ret
      exact ⟨unhide HR _ (by rw [unhide HF2]; simp at *; simp [inB, *]; omega), unhide hB⟩
  · go_enter Tryd.func52, Tryd.ntmps52
    go_wp2
    go_ret
    exact ⟨unhide HR _ (by rw [unhide HF2]; simp at *; simp [inB, *]; omega), unhide hB⟩

def Od.fits (o : Od) (b : Bool) : Bool := if b = true then o.ok else o.zero
set_option maxHeartbeats 1000000 in
theorem fits_any (o : Od) (b : Bool) (w : World) : Calls Tryd.prog 37 #[o.v, .bool b] w fun e w' => e = .returned (.bool (o.fits b)) ∧ Below w.heap.size w w' := by
  have HX := hide (fun w => opdOkI_any o w)
  obtain ⟨m, r, x⟩ := o
  cases b
  · unfold Od.fits Od.zero Od.v
    simp only
    go_enter Tryd.func37, Tryd.ntmps37
    go_wp2
    all_goals go_ret
    all_goals refine ⟨?_, (Below.refl _ _).alloc (Nat.le_refl _) _⟩
    all_goals simp_all
  · have HS := hide (box_below w (Obj.cells #[.int .i64 m, .int .i64 r, .int .i64 x] 25))
    have hz : w.heap.size + 1 ≤ (w.alloc (Obj.cells #[.int .i64 m, .int .i64 r, .int .i64 x] 25)).heap.size := by simp
    have HZ := hide hz
    clear hz
    have hf : Od.fits ⟨m, r, x⟩ true = Od.ok ⟨m, r, x⟩ := rfl
    rw [hf]
    clear hf
    unfold Od.v at HX ⊢
    simp only at HX ⊢
    go_enter Tryd.func37, Tryd.ntmps37
    go_wp2_with fail
    refine (Sub.call (x := ⟨_, Below.refl _ _⟩) (unhide HZ) (unhide HX _)).mono ?_
    rintro e _ ⟨rfl, y, rfl⟩
    go_wp2
    go_ret
    exact ⟨rfl, unhide HS _ y.h⟩

def Is.okI (i : Is) : Bool := inB i.op 1 23 && (((i.s.fits (inB i.op 1 6) && i.d.fits (inB i.op 1 15)) && decide (loN i.op ≤ i.n)) && decide (i.n ≤ hiN i.op))
theorem inB_t (x a b : Int) (h : a ≤ x ∧ x ≤ b) : inB x a b = true := by simp [inB, h]
theorem inB_f (x a b : Int) (h : x < a ∨ b < x) : inB x a b = false := by unfold inB; rw [Bool.and_eq_false_iff]; simp; omega
theorem eqB_t (x a : Int) (h : x = a) : (x == a) = true := by simp [h]
theorem eqB_f (x a : Int) (h : x ≠ a) : (x == a) = false := by simp [h]
theorem okI_eq (i : Is) : i.okI = i.ok := by
  obtain ⟨op, s, d, n⟩ := i
  have hc : op < 1 ∨ (1 ≤ op ∧ op ≤ 6) ∨ (7 ≤ op ∧ op ≤ 14) ∨ op = 15 ∨ op = 16 ∨ (17 ≤ op ∧ op ≤ 21) ∨ op = 22 ∨ op = 23 ∨ 23 < op := by omega
  unfold Is.okI Is.ok Od.fits
  simp only
  generalize s.ok = a
  generalize d.ok = b
  generalize s.zero = c
  generalize d.zero = f
  have e1 : (inB op 1 23 = true ∧ 1 ≤ op ∧ op ≤ 23) ∨ (inB op 1 23 = false ∧ (op < 1 ∨ 23 < op)) := by
    by_cases h : 1 ≤ op ∧ op ≤ 23
    · exact .inl ⟨inB_t _ _ _ h, h⟩
    · exact .inr ⟨inB_f _ _ _ (by omega), by omega⟩
  have hn : ∀ lo hi : Int, (decide (lo ≤ n) && decide (n ≤ hi)) = inB n lo hi := fun _ _ => rfl
  have h0 : inB n 0 0 = (n == 0) := by unfold inB; rw [Bool.eq_iff_iff]; simp; omega
  unfold loN hiN
  rw [Bool.and_assoc]
  rw [hn]
  rcases hc with h | h | h | h | h | h | h | h | h
  · rw [inB_f op 1 23 (by omega), inB_f op 1 6 (by omega), inB_f op 7 14 (by omega), inB_f op 17 21 (by omega), eqB_f op 15 (by omega), eqB_f op 16 (by omega), eqB_f op 22 (by omega), eqB_f op 23 (by omega)]; simp
  · rw [inB_t op 1 23 (by omega), inB_t op 1 6 (by omega), inB_t op 1 15 (by omega), inB_f op 17 21 (by omega), if_neg (show ¬ (op = 15 ∨ op = 16) by omega), if_neg (show ¬ op = 23 by omega)]; simp [h0]
  · rw [inB_t op 1 23 (by omega), inB_f op 1 6 (by omega), inB_t op 1 15 (by omega), inB_t op 7 14 (by omega), inB_f op 17 21 (by omega), if_neg (show ¬ (op = 15 ∨ op = 16) by omega), if_neg (show ¬ op = 23 by omega)]; simp [h0]
  · subst h; cases a <;> cases b <;> cases c <;> cases f <;> simp [inB]
  · subst h; cases a <;> cases b <;> cases c <;> cases f <;> simp [inB]
  · rw [inB_t op 1 23 (by omega), inB_f op 1 6 (by omega), inB_f op 1 15 (by omega), inB_f op 7 14 (by omega), inB_t op 17 21 (by omega), if_neg (show ¬ (op = 15 ∨ op = 16) by omega), eqB_f op 15 (by omega), eqB_f op 16 (by omega)]; cases c <;> cases f <;> simp
  · subst h; cases a <;> cases b <;> cases c <;> cases f <;> simp [inB] <;> (rw [Bool.eq_iff_iff]; simp; omega)
  · subst h; cases a <;> cases b <;> cases c <;> cases f <;> simp [inB]
  · rw [inB_f op 1 23 (by omega), inB_f op 1 6 (by omega), inB_f op 7 14 (by omega), inB_f op 17 21 (by omega), eqB_f op 15 (by omega), eqB_f op 16 (by omega), eqB_f op 22 (by omega), eqB_f op 23 (by omega)]; simp
end Go.Proofs.YtomoakfemdjpbaaDoor
