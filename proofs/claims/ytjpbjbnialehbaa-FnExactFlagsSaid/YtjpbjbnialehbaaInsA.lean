/- Contracts of chapter 3's model and of the laws' copies of operands and instructions, over this seat's translation; conditions stand as hypotheses of each. -/
import Derived.Test.YtjpbjbnialehbaaProg
import GoSem.Claim
import Derived.JoinedTies
import Derived.KernelRfl
import Derived.WalkKit
import Derived.ProofKit
import Derived.OpenShut
import Derived.ShutString
import Derived.ChangeOld
import Derived.Below
import Derived.Deep.OwnRows
import Derived.WalkSpells
import Derived.Deep.DeepMust
import Derived.BigQuiet
import Derived.WalkLawsBesides
namespace Go.Proofs.Ytjpbjbnialehbaa
open Go.ChangeShapes Go.WideShapes Go.ChangeAt Go.RowKit
set_option linter.unusedVariables false
set_option maxRecDepth 8000

theorem hide {p : Prop} (h : p) : Hid p := h
theorem unhide {p : Prop} (h : Hid p) : p := h

/-- An operand: mode, register, word. -/
structure Od where
  m : Int
  r : Int
  x : Int
/-- An instruction. -/
structure Is where
  op : Int
  s : Od
  d : Od
  n : Int
def Od.v (o : Od) : Value := .agg #[.int .i64 o.m, .int .i64 o.r, .int .i64 o.x]
def Is.v (i : Is) : Value := .agg #[.int .i64 i.op, .int .i64 i.s.m, .int .i64 i.s.r, .int .i64 i.s.x, .int .i64 i.d.m, .int .i64 i.d.r, .int .i64 i.d.x, .int .i64 i.n]
def inB (x a b : Int) : Bool := decide (a ≤ x) && decide (x ≤ b)
def Od.hasX (o : Od) : Bool := (o.m == 6 || o.m == 7) || (o.r == 7 && (o.m == 2 || o.m == 3))
def Od.ok (o : Od) : Bool := ((inB o.m 0 7 && inB o.r 0 7) && inB o.x 0 65535) && (o.hasX || o.x == 0)
def Od.zero (o : Od) : Bool := o.m == 0 && (o.r == 0 && o.x == 0)
def Is.ok (i : Is) : Bool :=
  if inB i.op 1 6 = true then (i.s.ok && i.d.ok) && i.n == 0
  else if inB i.op 7 14 = true then (i.s.zero && i.d.ok) && i.n == 0
  else if i.op == 15 then (i.s.zero && i.d.ok) && inB i.n 0 7
  else if (!i.s.zero || !i.d.zero) = true then false
  else if i.op == 16 then inB i.n 0 7
  else if inB i.op 17 21 = true then inB i.n (-128) 127
  else if i.op == 22 then i.n == 0
  else if i.op == 23 then inB i.n 0 255
  else false
def Is.words (i : Is) : Int := 1 + (if (inB i.op 1 6 && i.s.hasX) = true then 1 else 0) + (if (inB i.op 1 15 && i.d.hasX) = true then 1 else 0)

theorem in_any (x a b : Int) (w : World) : Calls Try.prog 46 #[.int .i64 x, .int .i64 a, .int .i64 b] w fun e w' => e = .returned (.bool (inB x a b)) ∧ w' = w := by
  unfold inB
  by_cases h1 : a ≤ x
  · rw [decide_eq_true h1, Bool.true_and]
    go_enter Try.func46, Try.ntmps46
    go_wp2
    go_ret
    exact ⟨rfl, rfl⟩
  · rw [decide_eq_false h1, Bool.false_and]
    have h3 : decide (a ≤ x) = false := decide_eq_false h1
    go_enter Try.func46, Try.ntmps46
    go_wp2
    go_ret
    exact ⟨rfl, rfl⟩

set_option maxHeartbeats 1000000 in
theorem hasX_any (o : Od) (w : World) : Calls Try.prog 74 #[o.v] w fun e w' => e = .returned (.bool o.hasX) ∧ Below w.heap.size w w' := by
  obtain ⟨m, r, x⟩ := o
  unfold Od.hasX Od.v
  simp only
  have hB := hide ((Below.refl w.heap.size w).alloc (Nat.le_refl _) (Obj.cells #[.int .i64 m, .int .i64 r, .int .i64 x] 93))
  cases h6 : (m == 6)
  · cases h7 : (m == 7)
    · cases h8 : (r == 7)
      · go_enter Try.func74, Try.ntmps74
        go_wp2
        go_ret
        exact ⟨rfl, unhide hB⟩
      · cases h2 : (m == 2)
        · go_enter Try.func74, Try.ntmps74
          go_wp2
          go_ret
          exact ⟨rfl, unhide hB⟩
        · go_enter Try.func74, Try.ntmps74
          go_wp2
          go_ret
          exact ⟨rfl, unhide hB⟩
    · go_enter Try.func74, Try.ntmps74
      go_wp2
      go_ret
      exact ⟨rfl, unhide hB⟩
  · go_enter Try.func74, Try.ntmps74
    go_wp2
    go_ret
    exact ⟨rfl, unhide hB⟩

set_option maxHeartbeats 1000000 in
theorem opdOk_any (o : Od) (w : World) : Calls Try.prog 76 #[o.v] w fun e w' => e = .returned (.bool o.ok) ∧ Below w.heap.size w w' := by
  have HX := hide (fun w => hasX_any o w)
  obtain ⟨m, r, x⟩ := o
  unfold Od.ok
  obtain ⟨q, hq⟩ : ∃ q, Od.hasX ⟨m, r, x⟩ = q := ⟨_, rfl⟩
  rw [hq] at HX ⊢
  clear hq
  unfold Od.v at HX ⊢
  simp only at HX ⊢
  have hB := hide ((Below.refl w.heap.size w).alloc (Nat.le_refl _) (Obj.cells #[.int .i64 m, .int .i64 r, .int .i64 x] 93))
  cases h1 : inB m 0 7
  · go_enter Try.func76, Try.ntmps76
    go_wp2_with (go_at_call 46; refine (in_any _ _ _ _).mono ?_; rintro e w' ⟨rfl, hw'⟩; rw [hw']; clear hw' w')
    go_ret
    exact ⟨rfl, unhide hB⟩
  · cases h2 : inB r 0 7
    · go_enter Try.func76, Try.ntmps76
      go_wp2_with (go_at_call 46; refine (in_any _ _ _ _).mono ?_; rintro e w' ⟨rfl, hw'⟩; rw [hw']; clear hw' w')
      go_ret
      exact ⟨rfl, unhide hB⟩
    · cases h3 : inB x 0 65535
      · go_enter Try.func76, Try.ntmps76
        go_wp2_with (go_at_call 46; refine (in_any _ _ _ _).mono ?_; rintro e w' ⟨rfl, hw'⟩; rw [hw']; clear hw' w')
        go_ret
        exact ⟨rfl, unhide hB⟩
      · have hz : (w.alloc (Obj.cells #[.int .i64 m, .int .i64 r, .int .i64 x] 93)).heap.size = w.heap.size + 1 := by simp
        have hcl : ∀ w', Below (w.heap.size + 1) (w.alloc (Obj.cells #[.int .i64 m, .int .i64 r, .int .i64 x] 93)) w' → w'.cell? ⟨w.heap.size, 2, none⟩ = some (.int .i64 x) := fun w' hb => (hb.cell (p := ⟨w.heap.size, 2, none⟩) (by simp)).trans (by simp)
        have HZ := hide hz
        have HCL := hide hcl
        clear hz hcl
        go_enter Try.func76, Try.ntmps76
        go_wp2_with (go_at_call 46; refine (in_any _ _ _ _).mono ?_; rintro e w' ⟨rfl, hw'⟩; rw [hw']; clear hw' w')
        refine (unhide HX _).mono ?_
        rintro e w2 ⟨rfl, hb2⟩
        rw [unhide HZ] at hb2
        have hcx := unhide HCL w2 hb2
        have B2 := hide ((unhide hB).trans (hb2.mono (by omega)))
        clear hb2 HX
        cases q
        · go_wp2
          go_ret
          exact ⟨rfl, unhide B2⟩
        · go_wp2
          go_ret
          exact ⟨rfl, unhide B2⟩
end Go.Proofs.Ytjpbjbnialehbaa
