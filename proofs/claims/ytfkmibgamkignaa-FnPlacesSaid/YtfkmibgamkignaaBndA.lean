/- Contracts over this seat's translation, laid together; conditions stand as hypotheses of each. -/
import Derived.Test.YtfkmibgamkignaaProg
import GoSem.Claim
import Derived.JoinedTies
import Derived.KernelRfl
import Derived.WalkKit
import Derived.ProofKit
import Derived.OpenShut
import Derived.ShutString
import Derived.ChangeOld
import Derived.Below
import Derived.Deep.OwnRows
import Derived.WalkSpells
import Derived.Deep.DeepMust
import Derived.BigQuiet
import Derived.WalkLawsBesides
import Derived.Laws.ResultCell
import Derived.Laws.Rows
import Derived.Laws.AppendOwnNone
import Derived.Laws.OwnMore
import Derived.Laws.BitsLemmas
import Derived.Laws.CopyOwn

namespace Go.Proofs.Ytfkmibgamkignaa
open Go.ChangeShapes Go.WideShapes Go.ChangeAt Go.RowKit
set_option linter.unusedVariables false
set_option maxRecDepth 8000

theorem hide {p : Prop} (h : p) : Hid p := h
theorem unhide {p : Prop} (h : Hid p) : p := h

/-- An operand: mode, register, word. -/
structure Od where
  m : Int
  r : Int
  x : Int
/-- An instruction. -/
structure Is where
  op : Int
  s : Od
  d : Od
  n : Int
def Od.v (o : Od) : Value := .agg #[.int .i64 o.m, .int .i64 o.r, .int .i64 o.x]
def Is.v (i : Is) : Value := .agg #[.int .i64 i.op, .int .i64 i.s.m, .int .i64 i.s.r, .int .i64 i.s.x, .int .i64 i.d.m, .int .i64 i.d.r, .int .i64 i.d.x, .int .i64 i.n]
def inB (x a b : Int) : Bool := decide (a ≤ x) && decide (x ≤ b)
def Od.hasX (o : Od) : Bool := (o.m == 6 || o.m == 7) || (o.r == 7 && (o.m == 2 || o.m == 3))
def Od.ok (o : Od) : Bool := ((inB o.m 0 7 && inB o.r 0 7) && inB o.x 0 65535) && (o.hasX || o.x == 0)
def Od.zero (o : Od) : Bool := o.m == 0 && (o.r == 0 && o.x == 0)
def Is.ok (i : Is) : Bool :=
  if inB i.op 1 6 = true then (i.s.ok && i.d.ok) && i.n == 0
  else if inB i.op 7 14 = true then (i.s.zero && i.d.ok) && i.n == 0
  else if i.op == 15 then (i.s.zero && i.d.ok) && inB i.n 0 7
  else if (!i.s.zero || !i.d.zero) = true then false
  else if i.op == 16 then inB i.n 0 7
  else if inB i.op 17 21 = true then inB i.n (-128) 127
  else if i.op == 22 then i.n == 0
  else if i.op == 23 then inB i.n 0 255
  else false
def Is.words (i : Is) : Int := 1 + (if (inB i.op 1 6 && i.s.hasX) = true then 1 else 0) + (if (inB i.op 1 15 && i.d.hasX) = true then 1 else 0)

theorem in_any (x a b : Int) (w : World) : Calls Try.prog 59 #[.int .i64 x, .int .i64 a, .int .i64 b] w fun e w' => e = .returned (.bool (inB x a b)) ∧ w' = w := by
  unfold inB
  by_cases h1 : a ≤ x
  · rw [decide_eq_true h1, Bool.true_and]
    go_enter Try.func59, Try.ntmps59
    go_wp2
    go_ret
    exact ⟨rfl, rfl⟩
  · rw [decide_eq_false h1, Bool.false_and]
    have h3 : decide (a ≤ x) = false := decide_eq_false h1
    go_enter Try.func59, Try.ntmps59
    go_wp2
    go_ret
    exact ⟨rfl, rfl⟩

set_option maxHeartbeats 1000000 in
theorem hasX_any (o : Od) (w : World) : Calls Try.prog 83 #[o.v] w fun e w' => e = .returned (.bool o.hasX) ∧ Below w.heap.size w w' := by
  obtain ⟨m, r, x⟩ := o
  unfold Od.hasX Od.v
  simp only
  have hB := hide ((Below.refl w.heap.size w).alloc (Nat.le_refl _) (Obj.cells #[.int .i64 m, .int .i64 r, .int .i64 x] 40))
  cases h6 : (m == 6)
  · cases h7 : (m == 7)
    · cases h8 : (r == 7)
      · go_enter Try.func83, Try.ntmps83
        go_wp2
        go_ret
        exact ⟨rfl, unhide hB⟩
      · cases h2 : (m == 2)
        · go_enter Try.func83, Try.ntmps83
          go_wp2
          go_ret
          exact ⟨rfl, unhide hB⟩
        · go_enter Try.func83, Try.ntmps83
          go_wp2
          go_ret
          exact ⟨rfl, unhide hB⟩
    · go_enter Try.func83, Try.ntmps83
      go_wp2
      go_ret
      exact ⟨rfl, unhide hB⟩
  · go_enter Try.func83, Try.ntmps83
    go_wp2
    go_ret
    exact ⟨rfl, unhide hB⟩

set_option maxHeartbeats 1000000 in
theorem opdOk_any (o : Od) (w : World) : Calls Try.prog 70 #[o.v] w fun e w' => e = .returned (.bool o.ok) ∧ Below w.heap.size w w' := by
  have HX := hide (fun w => hasX_any o w)
  obtain ⟨m, r, x⟩ := o
  unfold Od.ok
  obtain ⟨q, hq⟩ : ∃ q, Od.hasX ⟨m, r, x⟩ = q := ⟨_, rfl⟩
  rw [hq] at HX ⊢
  clear hq
  unfold Od.v at HX ⊢
  simp only at HX ⊢
  have hB := hide ((Below.refl w.heap.size w).alloc (Nat.le_refl _) (Obj.cells #[.int .i64 m, .int .i64 r, .int .i64 x] 40))
  cases h1 : inB m 0 7
  · go_enter Try.func70, Try.ntmps70
    go_wp2_with (go_at_call 59; refine (in_any _ _ _ _).mono ?_; rintro e w' ⟨rfl, hw'⟩; rw [hw']; clear hw' w')
    go_ret
    exact ⟨rfl, unhide hB⟩
  · cases h2 : inB r 0 7
    · go_enter Try.func70, Try.ntmps70
      go_wp2_with (go_at_call 59; refine (in_any _ _ _ _).mono ?_; rintro e w' ⟨rfl, hw'⟩; rw [hw']; clear hw' w')
      go_ret
      exact ⟨rfl, unhide hB⟩
    · cases h3 : inB x 0 65535
      · go_enter Try.func70, Try.ntmps70
        go_wp2_with (go_at_call 59; refine (in_any _ _ _ _).mono ?_; rintro e w' ⟨rfl, hw'⟩; rw [hw']; clear hw' w')
        go_ret
        exact ⟨rfl, unhide hB⟩
      · have hz : (w.alloc (Obj.cells #[.int .i64 m, .int .i64 r, .int .i64 x] 40)).heap.size = w.heap.size + 1 := by simp
        have hcl : ∀ w', Below (w.heap.size + 1) (w.alloc (Obj.cells #[.int .i64 m, .int .i64 r, .int .i64 x] 40)) w' → w'.cell? ⟨w.heap.size, 2, none⟩ = some (.int .i64 x) := fun w' hb => (hb.cell (p := ⟨w.heap.size, 2, none⟩) (by simp)).trans (by simp)
        have HZ := hide hz
        have HCL := hide hcl
        clear hz hcl
        go_enter Try.func70, Try.ntmps70
        go_wp2_with (go_at_call 59; refine (in_any _ _ _ _).mono ?_; rintro e w' ⟨rfl, hw'⟩; rw [hw']; clear hw' w')
        refine (unhide HX _).mono ?_
        rintro e w2 ⟨rfl, hb2⟩
        rw [unhide HZ] at hb2
        have hcx := unhide HCL w2 hb2
        have B2 := hide ((unhide hB).trans (hb2.mono (by omega)))
        clear hb2 HX
        cases q
        · go_wp2
          go_ret
          exact ⟨rfl, unhide B2⟩
        · go_wp2
          go_ret
          exact ⟨rfl, unhide B2⟩
end Go.Proofs.Ytfkmibgamkignaa

namespace Go.Proofs.Ytfkmibgamkignaa
open Go.ChangeShapes Go.WideShapes Go.ChangeAt Go.RowKit
set_option linter.unusedVariables false
set_option maxRecDepth 8000

set_option maxHeartbeats 1000000 in
theorem zero_any (o : Od) (w : World) : Calls Try.prog 99 #[o.v] w fun e w' => e = .returned (.bool o.zero) ∧ Below w.heap.size w w' := by
  obtain ⟨m, r, x⟩ := o
  unfold Od.zero Od.v
  simp only
  go_enter Try.func99, Try.ntmps99
  go_wp2
  all_goals go_ret
  all_goals refine ⟨?_, (Below.refl _ _).alloc (Nat.le_refl _) _⟩
  all_goals simp_all

end Go.Proofs.Ytfkmibgamkignaa

namespace Go.Proofs.Ytfkmibgamkignaa
open Go.ChangeShapes Go.WideShapes Go.ChangeAt Go.RowKit
set_option linter.unusedVariables false
set_option maxRecDepth 8000
set_option linter.unusedSimpArgs false

theorem box_cells (w : World) (cs : Array Value) (t : TypeId) : ∀ w', Below (w.heap.size + 1) (w.alloc (Obj.cells cs t)) w' → ∀ j v, cs[j]? = some v → w'.cell? ⟨w.heap.size, j, none⟩ = some v := fun w' hb j v hv =>
  (hb.cell (p := ⟨w.heap.size, j, none⟩) (by simp)).trans (by rw [World.cell?_alloc_at _ _ _ _ rfl]; exact hv)
theorem box_below (w : World) (o : Obj) : ∀ w', Below (w.heap.size + 1) (w.alloc o) w' → Below w.heap.size w w' := fun w' hb =>
  ((Below.refl _ _).alloc (Nat.le_refl _) _).trans (hb.mono (by omega))

set_option maxHeartbeats 4000000 in
theorem insOk_any (i : Is) (w : World) : Calls Try.prog 95 #[i.v] w fun e w' => e = .returned (.bool i.ok) ∧ Below w.heap.size w w' := by
  obtain ⟨op, ⟨sm, sr, sx⟩, ⟨dm, dr, dx⟩, n⟩ := i
  have HZ := hide (show (w.alloc (Obj.cells #[.int .i64 op, .int .i64 sm, .int .i64 sr, .int .i64 sx, .int .i64 dm, .int .i64 dr, .int .i64 dx, .int .i64 n] 92)).heap.size = w.heap.size + 1 by simp)
  have HCL := hide (box_cells w #[.int .i64 op, .int .i64 sm, .int .i64 sr, .int .i64 sx, .int .i64 dm, .int .i64 dr, .int .i64 dx, .int .i64 n] 92)
  have HB := hide (box_below w (Obj.cells #[.int .i64 op, .int .i64 sm, .int .i64 sr, .int .i64 sx, .int .i64 dm, .int .i64 dr, .int .i64 dx, .int .i64 n] 92))
  unfold Is.v
  simp only
  cases hA : inB op 1 6
  · cases hB1 : inB op 7 14
    · cases hC : (op == 15)
      · cases hz1 : Od.zero ⟨sm, sr, sx⟩
        · have HR := hide (show false = Is.ok ⟨op, ⟨sm, sr, sx⟩, ⟨dm, dr, dx⟩, n⟩ by simp [Is.ok, *])
          go_enter Try.func95, Try.ntmps95
          go_wp2_with (go_at_call 59; refine (in_any _ _ _ _).mono ?_; rintro e w' ⟨rfl, hw'⟩; rw [hw']; clear hw' w')
          refine (zero_any ⟨sm, sr, sx⟩ _).mono ?_
          rintro e w1 ⟨rfl, hb1⟩
          rw [unhide HZ] at hb1
          have Bz1 := hb1
          have a0 := unhide HCL w1 Bz1 0 _ rfl
          have a1 := unhide HCL w1 Bz1 1 _ rfl
          have a2 := unhide HCL w1 Bz1 2 _ rfl
          have a3 := unhide HCL w1 Bz1 3 _ rfl
          have a4 := unhide HCL w1 Bz1 4 _ rfl
          have a5 := unhide HCL w1 Bz1 5 _ rfl
          have a6 := unhide HCL w1 Bz1 6 _ rfl
          have a7 := unhide HCL w1 Bz1 7 _ rfl
          rw [hz1]
          go_wp2_with (go_at_call 59; refine (in_any _ _ _ _).mono ?_; rintro e w' ⟨rfl, hw'⟩; rw [hw']; clear hw' w')
          go_ret
          exact ⟨by rw [← unhide HR]; rfl, unhide HB _ Bz1⟩
        · cases hz2 : Od.zero ⟨dm, dr, dx⟩
          · have HR := hide (show false = Is.ok ⟨op, ⟨sm, sr, sx⟩, ⟨dm, dr, dx⟩, n⟩ by simp [Is.ok, *])
            go_enter Try.func95, Try.ntmps95
            go_wp2_with (go_at_call 59; refine (in_any _ _ _ _).mono ?_; rintro e w' ⟨rfl, hw'⟩; rw [hw']; clear hw' w')
            refine (zero_any ⟨sm, sr, sx⟩ _).mono ?_
            rintro e w1 ⟨rfl, hb1⟩
            rw [unhide HZ] at hb1
            have Bz1 := hb1
            have a0 := unhide HCL w1 Bz1 0 _ rfl
            have a1 := unhide HCL w1 Bz1 1 _ rfl
            have a2 := unhide HCL w1 Bz1 2 _ rfl
            have a3 := unhide HCL w1 Bz1 3 _ rfl
            have a4 := unhide HCL w1 Bz1 4 _ rfl
            have a5 := unhide HCL w1 Bz1 5 _ rfl
            have a6 := unhide HCL w1 Bz1 6 _ rfl
            have a7 := unhide HCL w1 Bz1 7 _ rfl
            rw [hz1]
            clear hb1
            go_wp2_with (go_at_call 59; refine (in_any _ _ _ _).mono ?_; rintro e w' ⟨rfl, hw'⟩; rw [hw']; clear hw' w')
            refine (zero_any ⟨dm, dr, dx⟩ _).mono ?_
            rintro e w2 ⟨rfl, hb2⟩
            have Bz2 := Bz1.trans (hb2.mono (by have := Bz1.size; rw [unhide HZ] at this; exact this))
            have a0 := unhide HCL w2 Bz2 0 _ rfl
            have a1 := unhide HCL w2 Bz2 1 _ rfl
            have a2 := unhide HCL w2 Bz2 2 _ rfl
            have a3 := unhide HCL w2 Bz2 3 _ rfl
            have a4 := unhide HCL w2 Bz2 4 _ rfl
            have a5 := unhide HCL w2 Bz2 5 _ rfl
            have a6 := unhide HCL w2 Bz2 6 _ rfl
            have a7 := unhide HCL w2 Bz2 7 _ rfl
            rw [hz2]
            go_wp2_with (go_at_call 59; refine (in_any _ _ _ _).mono ?_; rintro e w' ⟨rfl, hw'⟩; rw [hw']; clear hw' w')
            go_ret
            exact ⟨by rw [← unhide HR]; rfl, unhide HB _ Bz2⟩
          · cases h16 : (op == 16)
            · cases h17 : inB op 17 21
              · cases h22 : (op == 22)
                · cases h23 : (op == 23)
                  · have HR := hide (show false = Is.ok ⟨op, ⟨sm, sr, sx⟩, ⟨dm, dr, dx⟩, n⟩ by simp [Is.ok, *])
                    go_enter Try.func95, Try.ntmps95
                    go_wp2_with (go_at_call 59; refine (in_any _ _ _ _).mono ?_; rintro e w' ⟨rfl, hw'⟩; rw [hw']; clear hw' w')
                    refine (zero_any ⟨sm, sr, sx⟩ _).mono ?_
                    rintro e w1 ⟨rfl, hb1⟩
                    rw [unhide HZ] at hb1
                    have Bz1 := hb1
                    have a0 := unhide HCL w1 Bz1 0 _ rfl
                    have a1 := unhide HCL w1 Bz1 1 _ rfl
                    have a2 := unhide HCL w1 Bz1 2 _ rfl
                    have a3 := unhide HCL w1 Bz1 3 _ rfl
                    have a4 := unhide HCL w1 Bz1 4 _ rfl
                    have a5 := unhide HCL w1 Bz1 5 _ rfl
                    have a6 := unhide HCL w1 Bz1 6 _ rfl
                    have a7 := unhide HCL w1 Bz1 7 _ rfl
                    rw [hz1]
                    clear hb1
                    go_wp2_with (go_at_call 59; refine (in_any _ _ _ _).mono ?_; rintro e w' ⟨rfl, hw'⟩; rw [hw']; clear hw' w')
                    refine (zero_any ⟨dm, dr, dx⟩ _).mono ?_
                    rintro e w2 ⟨rfl, hb2⟩
                    have Bz2 := Bz1.trans (hb2.mono (by have := Bz1.size; rw [unhide HZ] at this; exact this))
                    have a0 := unhide HCL w2 Bz2 0 _ rfl
                    have a1 := unhide HCL w2 Bz2 1 _ rfl
                    have a2 := unhide HCL w2 Bz2 2 _ rfl
                    have a3 := unhide HCL w2 Bz2 3 _ rfl
                    have a4 := unhide HCL w2 Bz2 4 _ rfl
                    have a5 := unhide HCL w2 Bz2 5 _ rfl
                    have a6 := unhide HCL w2 Bz2 6 _ rfl
                    have a7 := unhide HCL w2 Bz2 7 _ rfl
                    rw [hz2]
                    go_wp2_with (go_at_call 59; refine (in_any _ _ _ _).mono ?_; rintro e w' ⟨rfl, hw'⟩; rw [hw']; clear hw' w')
                    go_ret
                    exact ⟨by rw [← unhide HR]; rfl, unhide HB _ Bz2⟩
                  · have HR := hide (show inB n 0 255 = Is.ok ⟨op, ⟨sm, sr, sx⟩, ⟨dm, dr, dx⟩, n⟩ by simp [Is.ok, *])
                    go_enter Try.func95, Try.ntmps95
                    go_wp2_with (go_at_call 59; refine (in_any _ _ _ _).mono ?_; rintro e w' ⟨rfl, hw'⟩; rw [hw']; clear hw' w')
                    refine (zero_any ⟨sm, sr, sx⟩ _).mono ?_
                    rintro e w1 ⟨rfl, hb1⟩
                    rw [unhide HZ] at hb1
                    have Bz1 := hb1
                    have a0 := unhide HCL w1 Bz1 0 _ rfl
                    have a1 := unhide HCL w1 Bz1 1 _ rfl
                    have a2 := unhide HCL w1 Bz1 2 _ rfl
                    have a3 := unhide HCL w1 Bz1 3 _ rfl
                    have a4 := unhide HCL w1 Bz1 4 _ rfl
                    have a5 := unhide HCL w1 Bz1 5 _ rfl
                    have a6 := unhide HCL w1 Bz1 6 _ rfl
                    have a7 := unhide HCL w1 Bz1 7 _ rfl
                    rw [hz1]
                    clear hb1
                    go_wp2_with (go_at_call 59; refine (in_any _ _ _ _).mono ?_; rintro e w' ⟨rfl, hw'⟩; rw [hw']; clear hw' w')
                    refine (zero_any ⟨dm, dr, dx⟩ _).mono ?_
                    rintro e w2 ⟨rfl, hb2⟩
                    have Bz2 := Bz1.trans (hb2.mono (by have := Bz1.size; rw [unhide HZ] at this; exact this))
                    have a0 := unhide HCL w2 Bz2 0 _ rfl
                    have a1 := unhide HCL w2 Bz2 1 _ rfl
                    have a2 := unhide HCL w2 Bz2 2 _ rfl
                    have a3 := unhide HCL w2 Bz2 3 _ rfl
                    have a4 := unhide HCL w2 Bz2 4 _ rfl
                    have a5 := unhide HCL w2 Bz2 5 _ rfl
                    have a6 := unhide HCL w2 Bz2 6 _ rfl
                    have a7 := unhide HCL w2 Bz2 7 _ rfl
                    rw [hz2]
                    go_wp2_with (go_at_call 59; refine (in_any _ _ _ _).mono ?_; rintro e w' ⟨rfl, hw'⟩; rw [hw']; clear hw' w')
                    go_ret
                    exact ⟨by rw [← unhide HR]; rfl, unhide HB _ Bz2⟩
                · have HR := hide (show (n == 0) = Is.ok ⟨op, ⟨sm, sr, sx⟩, ⟨dm, dr, dx⟩, n⟩ by simp [Is.ok, *])
                  go_enter Try.func95, Try.ntmps95
                  go_wp2_with (go_at_call 59; refine (in_any _ _ _ _).mono ?_; rintro e w' ⟨rfl, hw'⟩; rw [hw']; clear hw' w')
                  refine (zero_any ⟨sm, sr, sx⟩ _).mono ?_
                  rintro e w1 ⟨rfl, hb1⟩
                  rw [unhide HZ] at hb1
                  have Bz1 := hb1
                  have a0 := unhide HCL w1 Bz1 0 _ rfl
                  have a1 := unhide HCL w1 Bz1 1 _ rfl
                  have a2 := unhide HCL w1 Bz1 2 _ rfl
                  have a3 := unhide HCL w1 Bz1 3 _ rfl
                  have a4 := unhide HCL w1 Bz1 4 _ rfl
                  have a5 := unhide HCL w1 Bz1 5 _ rfl
                  have a6 := unhide HCL w1 Bz1 6 _ rfl
                  have a7 := unhide HCL w1 Bz1 7 _ rfl
                  rw [hz1]
                  clear hb1
                  go_wp2_with (go_at_call 59; refine (in_any _ _ _ _).mono ?_; rintro e w' ⟨rfl, hw'⟩; rw [hw']; clear hw' w')
                  refine (zero_any ⟨dm, dr, dx⟩ _).mono ?_
                  rintro e w2 ⟨rfl, hb2⟩
                  have Bz2 := Bz1.trans (hb2.mono (by have := Bz1.size; rw [unhide HZ] at this; exact this))
                  have a0 := unhide HCL w2 Bz2 0 _ rfl
                  have a1 := unhide HCL w2 Bz2 1 _ rfl
                  have a2 := unhide HCL w2 Bz2 2 _ rfl
                  have a3 := unhide HCL w2 Bz2 3 _ rfl
                  have a4 := unhide HCL w2 Bz2 4 _ rfl
                  have a5 := unhide HCL w2 Bz2 5 _ rfl
                  have a6 := unhide HCL w2 Bz2 6 _ rfl
                  have a7 := unhide HCL w2 Bz2 7 _ rfl
                  rw [hz2]
                  go_wp2_with (go_at_call 59; refine (in_any _ _ _ _).mono ?_; rintro e w' ⟨rfl, hw'⟩; rw [hw']; clear hw' w')
                  go_ret
                  exact ⟨by rw [← unhide HR]; rfl, unhide HB _ Bz2⟩
              · have HR := hide (show inB n (-128) 127 = Is.ok ⟨op, ⟨sm, sr, sx⟩, ⟨dm, dr, dx⟩, n⟩ by simp [Is.ok, *])
                go_enter Try.func95, Try.ntmps95
                go_wp2_with (go_at_call 59; refine (in_any _ _ _ _).mono ?_; rintro e w' ⟨rfl, hw'⟩; rw [hw']; clear hw' w')
                refine (zero_any ⟨sm, sr, sx⟩ _).mono ?_
                rintro e w1 ⟨rfl, hb1⟩
                rw [unhide HZ] at hb1
                have Bz1 := hb1
                have a0 := unhide HCL w1 Bz1 0 _ rfl
                have a1 := unhide HCL w1 Bz1 1 _ rfl
                have a2 := unhide HCL w1 Bz1 2 _ rfl
                have a3 := unhide HCL w1 Bz1 3 _ rfl
                have a4 := unhide HCL w1 Bz1 4 _ rfl
                have a5 := unhide HCL w1 Bz1 5 _ rfl
                have a6 := unhide HCL w1 Bz1 6 _ rfl
                have a7 := unhide HCL w1 Bz1 7 _ rfl
                rw [hz1]
                clear hb1
                go_wp2_with (go_at_call 59; refine (in_any _ _ _ _).mono ?_; rintro e w' ⟨rfl, hw'⟩; rw [hw']; clear hw' w')
                refine (zero_any ⟨dm, dr, dx⟩ _).mono ?_
                rintro e w2 ⟨rfl, hb2⟩
                have Bz2 := Bz1.trans (hb2.mono (by have := Bz1.size; rw [unhide HZ] at this; exact this))
                have a0 := unhide HCL w2 Bz2 0 _ rfl
                have a1 := unhide HCL w2 Bz2 1 _ rfl
                have a2 := unhide HCL w2 Bz2 2 _ rfl
                have a3 := unhide HCL w2 Bz2 3 _ rfl
                have a4 := unhide HCL w2 Bz2 4 _ rfl
                have a5 := unhide HCL w2 Bz2 5 _ rfl
                have a6 := unhide HCL w2 Bz2 6 _ rfl
                have a7 := unhide HCL w2 Bz2 7 _ rfl
                rw [hz2]
                go_wp2_with (go_at_call 59; refine (in_any _ _ _ _).mono ?_; rintro e w' ⟨rfl, hw'⟩; rw [hw']; clear hw' w')
                go_ret
                exact ⟨by rw [← unhide HR]; rfl, unhide HB _ Bz2⟩
            · have HR := hide (show inB n 0 7 = Is.ok ⟨op, ⟨sm, sr, sx⟩, ⟨dm, dr, dx⟩, n⟩ by simp [Is.ok, *])
              go_enter Try.func95, Try.ntmps95
              go_wp2_with (go_at_call 59; refine (in_any _ _ _ _).mono ?_; rintro e w' ⟨rfl, hw'⟩; rw [hw']; clear hw' w')
              refine (zero_any ⟨sm, sr, sx⟩ _).mono ?_
              rintro e w1 ⟨rfl, hb1⟩
              rw [unhide HZ] at hb1
              have Bz1 := hb1
              have a0 := unhide HCL w1 Bz1 0 _ rfl
              have a1 := unhide HCL w1 Bz1 1 _ rfl
              have a2 := unhide HCL w1 Bz1 2 _ rfl
              have a3 := unhide HCL w1 Bz1 3 _ rfl
              have a4 := unhide HCL w1 Bz1 4 _ rfl
              have a5 := unhide HCL w1 Bz1 5 _ rfl
              have a6 := unhide HCL w1 Bz1 6 _ rfl
              have a7 := unhide HCL w1 Bz1 7 _ rfl
              rw [hz1]
              clear hb1
              go_wp2_with (go_at_call 59; refine (in_any _ _ _ _).mono ?_; rintro e w' ⟨rfl, hw'⟩; rw [hw']; clear hw' w')
              refine (zero_any ⟨dm, dr, dx⟩ _).mono ?_
              rintro e w2 ⟨rfl, hb2⟩
              have Bz2 := Bz1.trans (hb2.mono (by have := Bz1.size; rw [unhide HZ] at this; exact this))
              have a0 := unhide HCL w2 Bz2 0 _ rfl
              have a1 := unhide HCL w2 Bz2 1 _ rfl
              have a2 := unhide HCL w2 Bz2 2 _ rfl
              have a3 := unhide HCL w2 Bz2 3 _ rfl
              have a4 := unhide HCL w2 Bz2 4 _ rfl
              have a5 := unhide HCL w2 Bz2 5 _ rfl
              have a6 := unhide HCL w2 Bz2 6 _ rfl
              have a7 := unhide HCL w2 Bz2 7 _ rfl
              rw [hz2]
              go_wp2_with (go_at_call 59; refine (in_any _ _ _ _).mono ?_; rintro e w' ⟨rfl, hw'⟩; rw [hw']; clear hw' w')
              go_ret
              exact ⟨by rw [← unhide HR]; rfl, unhide HB _ Bz2⟩
      · cases hs : Od.zero ⟨sm, sr, sx⟩
        · have HR := hide (show false = Is.ok ⟨op, ⟨sm, sr, sx⟩, ⟨dm, dr, dx⟩, n⟩ by simp [Is.ok, *])
          go_enter Try.func95, Try.ntmps95
          go_wp2_with (go_at_call 59; refine (in_any _ _ _ _).mono ?_; rintro e w' ⟨rfl, hw'⟩; rw [hw']; clear hw' w')
          refine (zero_any ⟨sm, sr, sx⟩ _).mono ?_
          rintro e w1 ⟨rfl, hb1⟩
          rw [unhide HZ] at hb1
          have Bz1 := hb1
          have a0 := unhide HCL w1 Bz1 0 _ rfl
          have a1 := unhide HCL w1 Bz1 1 _ rfl
          have a2 := unhide HCL w1 Bz1 2 _ rfl
          have a3 := unhide HCL w1 Bz1 3 _ rfl
          have a4 := unhide HCL w1 Bz1 4 _ rfl
          have a5 := unhide HCL w1 Bz1 5 _ rfl
          have a6 := unhide HCL w1 Bz1 6 _ rfl
          have a7 := unhide HCL w1 Bz1 7 _ rfl
          rw [hs]
          go_wp2_with (go_at_call 59; refine (in_any _ _ _ _).mono ?_; rintro e w' ⟨rfl, hw'⟩; rw [hw']; clear hw' w')
          go_ret
          exact ⟨by rw [← unhide HR]; rfl, unhide HB _ Bz1⟩
        · cases hd : Od.ok ⟨dm, dr, dx⟩
          · have HR := hide (show false = Is.ok ⟨op, ⟨sm, sr, sx⟩, ⟨dm, dr, dx⟩, n⟩ by simp [Is.ok, *])
            go_enter Try.func95, Try.ntmps95
            go_wp2_with (go_at_call 59; refine (in_any _ _ _ _).mono ?_; rintro e w' ⟨rfl, hw'⟩; rw [hw']; clear hw' w')
            refine (zero_any ⟨sm, sr, sx⟩ _).mono ?_
            rintro e w1 ⟨rfl, hb1⟩
            rw [unhide HZ] at hb1
            have Bz1 := hb1
            have a0 := unhide HCL w1 Bz1 0 _ rfl
            have a1 := unhide HCL w1 Bz1 1 _ rfl
            have a2 := unhide HCL w1 Bz1 2 _ rfl
            have a3 := unhide HCL w1 Bz1 3 _ rfl
            have a4 := unhide HCL w1 Bz1 4 _ rfl
            have a5 := unhide HCL w1 Bz1 5 _ rfl
            have a6 := unhide HCL w1 Bz1 6 _ rfl
            have a7 := unhide HCL w1 Bz1 7 _ rfl
            rw [hs]
            clear hb1
            go_wp2_with (go_at_call 59; refine (in_any _ _ _ _).mono ?_; rintro e w' ⟨rfl, hw'⟩; rw [hw']; clear hw' w')
            refine (opdOk_any ⟨dm, dr, dx⟩ _).mono ?_
            rintro e w2 ⟨rfl, hb2⟩
            have Bz2 := Bz1.trans (hb2.mono (by have := Bz1.size; rw [unhide HZ] at this; exact this))
            have a0 := unhide HCL w2 Bz2 0 _ rfl
            have a1 := unhide HCL w2 Bz2 1 _ rfl
            have a2 := unhide HCL w2 Bz2 2 _ rfl
            have a3 := unhide HCL w2 Bz2 3 _ rfl
            have a4 := unhide HCL w2 Bz2 4 _ rfl
            have a5 := unhide HCL w2 Bz2 5 _ rfl
            have a6 := unhide HCL w2 Bz2 6 _ rfl
            have a7 := unhide HCL w2 Bz2 7 _ rfl
            rw [hd]
            go_wp2_with (go_at_call 59; refine (in_any _ _ _ _).mono ?_; rintro e w' ⟨rfl, hw'⟩; rw [hw']; clear hw' w')
            go_ret
            exact ⟨by rw [← unhide HR]; rfl, unhide HB _ Bz2⟩
          · have HR := hide (show inB n 0 7 = Is.ok ⟨op, ⟨sm, sr, sx⟩, ⟨dm, dr, dx⟩, n⟩ by simp [Is.ok, *])
            go_enter Try.func95, Try.ntmps95
            go_wp2_with (go_at_call 59; refine (in_any _ _ _ _).mono ?_; rintro e w' ⟨rfl, hw'⟩; rw [hw']; clear hw' w')
            refine (zero_any ⟨sm, sr, sx⟩ _).mono ?_
            rintro e w1 ⟨rfl, hb1⟩
            rw [unhide HZ] at hb1
            have Bz1 := hb1
            have a0 := unhide HCL w1 Bz1 0 _ rfl
            have a1 := unhide HCL w1 Bz1 1 _ rfl
            have a2 := unhide HCL w1 Bz1 2 _ rfl
            have a3 := unhide HCL w1 Bz1 3 _ rfl
            have a4 := unhide HCL w1 Bz1 4 _ rfl
            have a5 := unhide HCL w1 Bz1 5 _ rfl
            have a6 := unhide HCL w1 Bz1 6 _ rfl
            have a7 := unhide HCL w1 Bz1 7 _ rfl
            rw [hs]
            clear hb1
            go_wp2_with (go_at_call 59; refine (in_any _ _ _ _).mono ?_; rintro e w' ⟨rfl, hw'⟩; rw [hw']; clear hw' w')
            refine (opdOk_any ⟨dm, dr, dx⟩ _).mono ?_
            rintro e w2 ⟨rfl, hb2⟩
            have Bz2 := Bz1.trans (hb2.mono (by have := Bz1.size; rw [unhide HZ] at this; exact this))
            have a0 := unhide HCL w2 Bz2 0 _ rfl
            have a1 := unhide HCL w2 Bz2 1 _ rfl
            have a2 := unhide HCL w2 Bz2 2 _ rfl
            have a3 := unhide HCL w2 Bz2 3 _ rfl
            have a4 := unhide HCL w2 Bz2 4 _ rfl
            have a5 := unhide HCL w2 Bz2 5 _ rfl
            have a6 := unhide HCL w2 Bz2 6 _ rfl
            have a7 := unhide HCL w2 Bz2 7 _ rfl
            rw [hd]
            go_wp2_with (go_at_call 59; refine (in_any _ _ _ _).mono ?_; rintro e w' ⟨rfl, hw'⟩; rw [hw']; clear hw' w')
            go_ret
            exact ⟨by rw [← unhide HR]; rfl, unhide HB _ Bz2⟩
    · cases hs : Od.zero ⟨sm, sr, sx⟩
      · have HR := hide (show false = Is.ok ⟨op, ⟨sm, sr, sx⟩, ⟨dm, dr, dx⟩, n⟩ by simp [Is.ok, *])
        go_enter Try.func95, Try.ntmps95
        go_wp2_with (go_at_call 59; refine (in_any _ _ _ _).mono ?_; rintro e w' ⟨rfl, hw'⟩; rw [hw']; clear hw' w')
        refine (zero_any ⟨sm, sr, sx⟩ _).mono ?_
        rintro e w1 ⟨rfl, hb1⟩
        rw [unhide HZ] at hb1
        have Bz1 := hb1
        have a0 := unhide HCL w1 Bz1 0 _ rfl
        have a1 := unhide HCL w1 Bz1 1 _ rfl
        have a2 := unhide HCL w1 Bz1 2 _ rfl
        have a3 := unhide HCL w1 Bz1 3 _ rfl
        have a4 := unhide HCL w1 Bz1 4 _ rfl
        have a5 := unhide HCL w1 Bz1 5 _ rfl
        have a6 := unhide HCL w1 Bz1 6 _ rfl
        have a7 := unhide HCL w1 Bz1 7 _ rfl
        rw [hs]
        go_wp2_with (go_at_call 59; refine (in_any _ _ _ _).mono ?_; rintro e w' ⟨rfl, hw'⟩; rw [hw']; clear hw' w')
        go_ret
        exact ⟨by rw [← unhide HR]; rfl, unhide HB _ Bz1⟩
      · cases hd : Od.ok ⟨dm, dr, dx⟩
        · have HR := hide (show false = Is.ok ⟨op, ⟨sm, sr, sx⟩, ⟨dm, dr, dx⟩, n⟩ by simp [Is.ok, *])
          go_enter Try.func95, Try.ntmps95
          go_wp2_with (go_at_call 59; refine (in_any _ _ _ _).mono ?_; rintro e w' ⟨rfl, hw'⟩; rw [hw']; clear hw' w')
          refine (zero_any ⟨sm, sr, sx⟩ _).mono ?_
          rintro e w1 ⟨rfl, hb1⟩
          rw [unhide HZ] at hb1
          have Bz1 := hb1
          have a0 := unhide HCL w1 Bz1 0 _ rfl
          have a1 := unhide HCL w1 Bz1 1 _ rfl
          have a2 := unhide HCL w1 Bz1 2 _ rfl
          have a3 := unhide HCL w1 Bz1 3 _ rfl
          have a4 := unhide HCL w1 Bz1 4 _ rfl
          have a5 := unhide HCL w1 Bz1 5 _ rfl
          have a6 := unhide HCL w1 Bz1 6 _ rfl
          have a7 := unhide HCL w1 Bz1 7 _ rfl
          rw [hs]
          clear hb1
          go_wp2_with (go_at_call 59; refine (in_any _ _ _ _).mono ?_; rintro e w' ⟨rfl, hw'⟩; rw [hw']; clear hw' w')
          refine (opdOk_any ⟨dm, dr, dx⟩ _).mono ?_
          rintro e w2 ⟨rfl, hb2⟩
          have Bz2 := Bz1.trans (hb2.mono (by have := Bz1.size; rw [unhide HZ] at this; exact this))
          have a0 := unhide HCL w2 Bz2 0 _ rfl
          have a1 := unhide HCL w2 Bz2 1 _ rfl
          have a2 := unhide HCL w2 Bz2 2 _ rfl
          have a3 := unhide HCL w2 Bz2 3 _ rfl
          have a4 := unhide HCL w2 Bz2 4 _ rfl
          have a5 := unhide HCL w2 Bz2 5 _ rfl
          have a6 := unhide HCL w2 Bz2 6 _ rfl
          have a7 := unhide HCL w2 Bz2 7 _ rfl
          rw [hd]
          go_wp2_with (go_at_call 59; refine (in_any _ _ _ _).mono ?_; rintro e w' ⟨rfl, hw'⟩; rw [hw']; clear hw' w')
          go_ret
          exact ⟨by rw [← unhide HR]; rfl, unhide HB _ Bz2⟩
        · have HR := hide (show (n == 0) = Is.ok ⟨op, ⟨sm, sr, sx⟩, ⟨dm, dr, dx⟩, n⟩ by simp [Is.ok, *])
          go_enter Try.func95, Try.ntmps95
          go_wp2_with (go_at_call 59; refine (in_any _ _ _ _).mono ?_; rintro e w' ⟨rfl, hw'⟩; rw [hw']; clear hw' w')
          refine (zero_any ⟨sm, sr, sx⟩ _).mono ?_
          rintro e w1 ⟨rfl, hb1⟩
          rw [unhide HZ] at hb1
          have Bz1 := hb1
          have a0 := unhide HCL w1 Bz1 0 _ rfl
          have a1 := unhide HCL w1 Bz1 1 _ rfl
          have a2 := unhide HCL w1 Bz1 2 _ rfl
          have a3 := unhide HCL w1 Bz1 3 _ rfl
          have a4 := unhide HCL w1 Bz1 4 _ rfl
          have a5 := unhide HCL w1 Bz1 5 _ rfl
          have a6 := unhide HCL w1 Bz1 6 _ rfl
          have a7 := unhide HCL w1 Bz1 7 _ rfl
          rw [hs]
          clear hb1
          go_wp2_with (go_at_call 59; refine (in_any _ _ _ _).mono ?_; rintro e w' ⟨rfl, hw'⟩; rw [hw']; clear hw' w')
          refine (opdOk_any ⟨dm, dr, dx⟩ _).mono ?_
          rintro e w2 ⟨rfl, hb2⟩
          have Bz2 := Bz1.trans (hb2.mono (by have := Bz1.size; rw [unhide HZ] at this; exact this))
          have a0 := unhide HCL w2 Bz2 0 _ rfl
          have a1 := unhide HCL w2 Bz2 1 _ rfl
          have a2 := unhide HCL w2 Bz2 2 _ rfl
          have a3 := unhide HCL w2 Bz2 3 _ rfl
          have a4 := unhide HCL w2 Bz2 4 _ rfl
          have a5 := unhide HCL w2 Bz2 5 _ rfl
          have a6 := unhide HCL w2 Bz2 6 _ rfl
          have a7 := unhide HCL w2 Bz2 7 _ rfl
          rw [hd]
          go_wp2_with (go_at_call 59; refine (in_any _ _ _ _).mono ?_; rintro e w' ⟨rfl, hw'⟩; rw [hw']; clear hw' w')
          go_ret
          exact ⟨by rw [← unhide HR]; rfl, unhide HB _ Bz2⟩
  · cases hs : Od.ok ⟨sm, sr, sx⟩
    · have HR := hide (show false = Is.ok ⟨op, ⟨sm, sr, sx⟩, ⟨dm, dr, dx⟩, n⟩ by simp [Is.ok, *])
      go_enter Try.func95, Try.ntmps95
      go_wp2_with (go_at_call 59; refine (in_any _ _ _ _).mono ?_; rintro e w' ⟨rfl, hw'⟩; rw [hw']; clear hw' w')
      refine (opdOk_any ⟨sm, sr, sx⟩ _).mono ?_
      rintro e w1 ⟨rfl, hb1⟩
      rw [unhide HZ] at hb1
      have Bz1 := hb1
      have a0 := unhide HCL w1 Bz1 0 _ rfl
      have a1 := unhide HCL w1 Bz1 1 _ rfl
      have a2 := unhide HCL w1 Bz1 2 _ rfl
      have a3 := unhide HCL w1 Bz1 3 _ rfl
      have a4 := unhide HCL w1 Bz1 4 _ rfl
      have a5 := unhide HCL w1 Bz1 5 _ rfl
      have a6 := unhide HCL w1 Bz1 6 _ rfl
      have a7 := unhide HCL w1 Bz1 7 _ rfl
      rw [hs]
      go_wp2_with (go_at_call 59; refine (in_any _ _ _ _).mono ?_; rintro e w' ⟨rfl, hw'⟩; rw [hw']; clear hw' w')
      go_ret
      exact ⟨by rw [← unhide HR]; rfl, unhide HB _ Bz1⟩
    · cases hd : Od.ok ⟨dm, dr, dx⟩
      · have HR := hide (show false = Is.ok ⟨op, ⟨sm, sr, sx⟩, ⟨dm, dr, dx⟩, n⟩ by simp [Is.ok, *])
        go_enter Try.func95, Try.ntmps95
        go_wp2_with (go_at_call 59; refine (in_any _ _ _ _).mono ?_; rintro e w' ⟨rfl, hw'⟩; rw [hw']; clear hw' w')
        refine (opdOk_any ⟨sm, sr, sx⟩ _).mono ?_
        rintro e w1 ⟨rfl, hb1⟩
        rw [unhide HZ] at hb1
        have Bz1 := hb1
        have a0 := unhide HCL w1 Bz1 0 _ rfl
        have a1 := unhide HCL w1 Bz1 1 _ rfl
        have a2 := unhide HCL w1 Bz1 2 _ rfl
        have a3 := unhide HCL w1 Bz1 3 _ rfl
        have a4 := unhide HCL w1 Bz1 4 _ rfl
        have a5 := unhide HCL w1 Bz1 5 _ rfl
        have a6 := unhide HCL w1 Bz1 6 _ rfl
        have a7 := unhide HCL w1 Bz1 7 _ rfl
        rw [hs]
        clear hb1
        go_wp2_with (go_at_call 59; refine (in_any _ _ _ _).mono ?_; rintro e w' ⟨rfl, hw'⟩; rw [hw']; clear hw' w')
        refine (opdOk_any ⟨dm, dr, dx⟩ _).mono ?_
        rintro e w2 ⟨rfl, hb2⟩
        have Bz2 := Bz1.trans (hb2.mono (by have := Bz1.size; rw [unhide HZ] at this; exact this))
        have a0 := unhide HCL w2 Bz2 0 _ rfl
        have a1 := unhide HCL w2 Bz2 1 _ rfl
        have a2 := unhide HCL w2 Bz2 2 _ rfl
        have a3 := unhide HCL w2 Bz2 3 _ rfl
        have a4 := unhide HCL w2 Bz2 4 _ rfl
        have a5 := unhide HCL w2 Bz2 5 _ rfl
        have a6 := unhide HCL w2 Bz2 6 _ rfl
        have a7 := unhide HCL w2 Bz2 7 _ rfl
        rw [hd]
        go_wp2_with (go_at_call 59; refine (in_any _ _ _ _).mono ?_; rintro e w' ⟨rfl, hw'⟩; rw [hw']; clear hw' w')
        go_ret
        exact ⟨by rw [← unhide HR]; rfl, unhide HB _ Bz2⟩
      · have HR := hide (show (n == 0) = Is.ok ⟨op, ⟨sm, sr, sx⟩, ⟨dm, dr, dx⟩, n⟩ by simp [Is.ok, *])
        go_enter Try.func95, Try.ntmps95
        go_wp2_with (go_at_call 59; refine (in_any _ _ _ _).mono ?_; rintro e w' ⟨rfl, hw'⟩; rw [hw']; clear hw' w')
        refine (opdOk_any ⟨sm, sr, sx⟩ _).mono ?_
        rintro e w1 ⟨rfl, hb1⟩
        rw [unhide HZ] at hb1
        have Bz1 := hb1
        have a0 := unhide HCL w1 Bz1 0 _ rfl
        have a1 := unhide HCL w1 Bz1 1 _ rfl
        have a2 := unhide HCL w1 Bz1 2 _ rfl
        have a3 := unhide HCL w1 Bz1 3 _ rfl
        have a4 := unhide HCL w1 Bz1 4 _ rfl
        have a5 := unhide HCL w1 Bz1 5 _ rfl
        have a6 := unhide HCL w1 Bz1 6 _ rfl
        have a7 := unhide HCL w1 Bz1 7 _ rfl
        rw [hs]
        clear hb1
        go_wp2_with (go_at_call 59; refine (in_any _ _ _ _).mono ?_; rintro e w' ⟨rfl, hw'⟩; rw [hw']; clear hw' w')
        refine (opdOk_any ⟨dm, dr, dx⟩ _).mono ?_
        rintro e w2 ⟨rfl, hb2⟩
        have Bz2 := Bz1.trans (hb2.mono (by have := Bz1.size; rw [unhide HZ] at this; exact this))
        have a0 := unhide HCL w2 Bz2 0 _ rfl
        have a1 := unhide HCL w2 Bz2 1 _ rfl
        have a2 := unhide HCL w2 Bz2 2 _ rfl
        have a3 := unhide HCL w2 Bz2 3 _ rfl
        have a4 := unhide HCL w2 Bz2 4 _ rfl
        have a5 := unhide HCL w2 Bz2 5 _ rfl
        have a6 := unhide HCL w2 Bz2 6 _ rfl
        have a7 := unhide HCL w2 Bz2 7 _ rfl
        rw [hd]
        go_wp2_with (go_at_call 59; refine (in_any _ _ _ _).mono ?_; rintro e w' ⟨rfl, hw'⟩; rw [hw']; clear hw' w')
        go_ret
        exact ⟨by rw [← unhide HR]; rfl, unhide HB _ Bz2⟩
end Go.Proofs.Ytfkmibgamkignaa

namespace Go.Proofs.Ytfkmibgamkignaa
open Go.ChangeShapes Go.WideShapes Go.ChangeAt Go.RowKit
set_option linter.unusedVariables false
set_option maxRecDepth 8000

def c8 (l : List Int) (j : Nat) : Value := .int .i64 (l.getD j 0)
def cs8 (l : List Int) : Array Value := #[c8 l 0, c8 l 1, c8 l 2, c8 l 3, c8 l 4, c8 l 5, c8 l 6, c8 l 7]
theorem row8 (w : World) (l : List Int) (t : TypeId) : (w.alloc (Obj.cells (cs8 l) t)).rowIs w.heap.size t 8 (c8 l) :=
  ⟨_, Array.getElem?_push_size, rfl, fun i hi => by
    obtain rfl | rfl | rfl | rfl | rfl | rfl | rfl | rfl : i = 0 ∨ i = 1 ∨ i = 2 ∨ i = 3 ∨ i = 4 ∨ i = 5 ∨ i = 6 ∨ i = 7 := by omega
    all_goals rfl⟩
theorem row8_heap {w : World} {b t : Nat} {l : List Int} (h : w.rowIs b t 8 (c8 l)) : w.heap[b]? = some (.cells (cs8 l) t (0, 0)) := by
  obtain ⟨c, hc, hs, hv⟩ := h
  rw [hc]
  congr 2
  apply Array.ext'
  apply List.ext_getElem?
  intro i
  by_cases hi : i < 8
  · rw [Array.getElem?_toList, hv i hi]
    obtain rfl | rfl | rfl | rfl | rfl | rfl | rfl | rfl : i = 0 ∨ i = 1 ∨ i = 2 ∨ i = 3 ∨ i = 4 ∨ i = 5 ∨ i = 6 ∨ i = 7 := by omega
    all_goals rfl
  · rw [List.getElem?_eq_none (by simp; omega), List.getElem?_eq_none (by simp [cs8]; omega)]
/-- A store into the row. -/
theorem row8_set {w : World} {b t : Nat} {l l' : List Int} (h : w.rowIs b t 8 (c8 l)) (k : Nat) (x : Int) (he : ∀ j, j < 8 → (if j = k then Value.int .i64 x else c8 l j) = c8 l' j) : (w.setCell ⟨b, k, none⟩ (.int .i64 x)).rowIs b t 8 (c8 l') := (h.set k _).congr he

/-- What stands while an instruction is copied: the box, the answer's block, the copy. -/
structure Cp (w wr : World) (tb ti : TypeId) (l r o : List Int) : Prop where
  bel : Below w.heap.size w wr
  box : wr.rowIs w.heap.size tb 8 (c8 l)
  res : wr.rowIs (w.heap.size + 1) ti 8 (c8 r)
  out : wr.rowIs (w.heap.size + 2) ti 8 (c8 o)
section
variable {w wr w' : World} {tb ti : TypeId} {l r o : List Int}
theorem Cp.later (h : Cp w wr tb ti l r o) (hb : Below wr.heap.size wr w') : Cp w w' tb ti l r o :=
  ⟨h.bel.trans (hb.mono h.bel.size), h.box.of_block (hb.block _ h.box.lt), h.res.of_block (hb.block _ h.res.lt), h.out.of_block (hb.block _ h.out.lt)⟩
theorem Cp.set (h : Cp w wr tb ti l r o) (k : Nat) (x : Int) (o' : List Int) (he : ∀ j, j < 8 → (if j = k then Value.int .i64 x else c8 o j) = c8 o' j) : Cp w (wr.setCell ⟨w.heap.size + 2, k, none⟩ (.int .i64 x)) tb ti l r o' :=
  ⟨h.bel.setCell (by show w.heap.size ≤ w.heap.size + 2; omega) _, h.box.of_block (Below.heap_setCell _ _ _ _ (by show w.heap.size ≠ w.heap.size + 2; omega)), h.res.of_block (Below.heap_setCell _ _ _ _ (by show w.heap.size + 1 ≠ w.heap.size + 2; omega)), row8_set h.out k x he⟩
theorem Cp.setR (h : Cp w wr tb ti l r o) (k : Nat) (x : Int) (r' : List Int) (he : ∀ j, j < 8 → (if j = k then Value.int .i64 x else c8 r j) = c8 r' j) : Cp w (wr.setCell ⟨w.heap.size + 1, k, none⟩ (.int .i64 x)) tb ti l r' o :=
  ⟨h.bel.setCell (by show w.heap.size ≤ w.heap.size + 1; omega) _, h.box.of_block (Below.heap_setCell _ _ _ _ (by show w.heap.size ≠ w.heap.size + 1; omega)), row8_set h.res k x he, h.out.of_block (Below.heap_setCell _ _ _ _ (by show w.heap.size + 2 ≠ w.heap.size + 1; omega))⟩
end
theorem cp_new (w : World) (l o : List Int) (tb ti : TypeId) : Cp w (((w.alloc (Obj.cells (cs8 l) tb)).alloc (Obj.cells (cs8 [0, 0, 0, 0, 0, 0, 0, 0]) ti)).alloc (Obj.cells (cs8 o) ti)) tb ti l [0, 0, 0, 0, 0, 0, 0, 0] o := by
  have h1 : (w.alloc (Obj.cells (cs8 l) tb)).heap.size = w.heap.size + 1 := by simp
  have h2 : ((w.alloc (Obj.cells (cs8 l) tb)).alloc (Obj.cells (cs8 [0, 0, 0, 0, 0, 0, 0, 0]) ti)).heap.size = w.heap.size + 2 := by simp
  refine ⟨(((Below.refl _ _).alloc (Nat.le_refl _) _).alloc (by simp) _).alloc (by simp; omega) _, ((row8 w l tb).alloc _).alloc _, ?_, ?_⟩
  · have := (row8 (w.alloc (Obj.cells (cs8 l) tb)) [0, 0, 0, 0, 0, 0, 0, 0] ti).alloc (Obj.cells (cs8 o) ti)
    rw [h1] at this
    exact this
  · have := row8 ((w.alloc (Obj.cells (cs8 l) tb)).alloc (Obj.cells (cs8 [0, 0, 0, 0, 0, 0, 0, 0]) ti)) o ti
    rw [h2] at this
    exact this

end Go.Proofs.Ytfkmibgamkignaa

namespace Go.Proofs.Ytfkmibgamkignaa
open Go.ChangeShapes Go.WideShapes Go.ChangeAt Go.RowKit
set_option linter.unusedVariables false
set_option maxRecDepth 8000

theorem info3 : (Try.prog.info? 3).map (fun i => (i.zero, i.size, i.bytes)) = some (some (.int .i64 0), 1, 8) := by kernel_rfl

/-- The i-th byte as a number. -/
def bAt (xs : List UInt8) (i : Nat) : Int := ((xs.getD i 0).toNat : Int)
theorem bAt_bd (xs : List UInt8) (i : Nat) : 0 ≤ bAt xs i ∧ bAt xs i ≤ 255 := by
  unfold bAt
  have := (xs.getD i 0).toNat_lt
  omega
theorem sAt (s : ByteArray) (k : Nat) (h : k < s.size) : ((s[k]'h).toNat : Int) = bAt s.data.toList k := by
  unfold bAt
  rw [List.getD_eq_getElem?_getD, List.getElem?_eq_getElem (by simpa using h)]
  rfl

def nAt (ns : List Int) (i : Nat) : Int := ns.getD i 0
theorem take_nAt (ns : List Int) (k : Nat) (h : k < ns.length) : ns.take (k + 1) = ns.take k ++ [nAt ns k] := by
  rw [List.take_succ_eq_append_getElem h]; simp [nAt, List.getElem?_eq_getElem h]

/-- A slice of ints with address a reads as ns. -/
def RdN (w : World) (a : Option Addr) (ns : List Int) : Prop :=
  ns = [] ∨ ∃ b off, a = some ⟨b, off, none⟩ ∧ b < w.heap.size ∧ ∀ i, i < ns.length → w.cell? ⟨b, off + i, none⟩ = some (.int .i64 (nAt ns i))
theorem RdN.later {w w' : World} {a : Option Addr} {xs : List Int} (h : RdN w a xs) (hb : Below w.heap.size w w') : RdN w' a xs := by
  rcases h with h | ⟨b, off, ha, hlt, hc⟩
  · exact .inl h
  · exact .inr ⟨b, off, ha, Nat.lt_of_lt_of_le hlt hb.size, fun i hi => (hb.cell (p := ⟨b, off + i, none⟩) hlt).trans (hc i hi)⟩

def cellsN (ns : List Int) : List Value := ns.map fun n => .int .i64 n
theorem cellsN_length (ys : List Int) : (cellsN ys).length = ys.length := by simp [cellsN]
theorem cellsN_append (a b : List Int) : cellsN (a ++ b) = cellsN a ++ cellsN b := by simp [cellsN]
theorem cellsN_one (ys : List Int) : ∀ u ∈ cellsN ys, u.oneCell' = true := by
  intro u hu
  simp only [cellsN, List.mem_map] at hu
  obtain ⟨y, _, rfl⟩ := hu
  rfl
/-- v is a slice of the call's own (blocks from B on) that holds the ints ns. -/
def OwnN (w : World) (B : Nat) (v : Value) (ns : List Int) : Prop := w.ownsRow B 3 1 v ns.length (cellsN ns)

theorem ownN_none (w : World) (B : Nat) : OwnN w B (.slice none 0 0) [] := ⟨rfl, .inl ⟨rfl, rfl⟩⟩
theorem ownN_empty (w : World) : OwnN (w.alloc (Obj.cells #[] 3)) w.heap.size (.slice (some ⟨w.heap.size, 0, none⟩) 0 0) [] :=
  World.ownsRow_lit w #[] 0 (Nat.le_refl _) (by decide) rfl
theorem OwnN.rd {w : World} {B : Nat} {v : Value} {ys : List Int} (h : OwnN w B v ys) : ∃ a cap, v = .slice a ys.length cap ∧ ys.length ≤ cap ∧ cap ≤ maxLen ∧ RdN w a ys ∧ (∀ ad, a = some ad → B ≤ ad.block) ∧ (a = none → cap = 0) := by
  obtain ⟨_, ⟨rfl, h0⟩ | ⟨g, cap, cur, rfl, hg, hh, hn, hm, hs, ht⟩⟩ := id h
  · obtain rfl : ys = [] := List.eq_nil_of_length_eq_zero h0
    exact ⟨none, 0, rfl, Nat.le_refl _, Nat.zero_le _, .inl rfl, (fun _ h => by cases h), fun _ => rfl⟩
  · refine ⟨_, cap, rfl, hn, hm, .inr ⟨g, 0, rfl, (Array.getElem?_eq_some_iff.1 hh).1, fun i hi => ?_⟩, (fun ad h => by cases h; exact hg), fun h => by cases h⟩
    have h2 := World.ownsRow.cellAt h i (by omega)
    rw [Nat.zero_add, h2]
    simp only [cellsN, List.getElem?_map, List.getElem?_eq_getElem hi, Option.map_some]
    unfold nAt
    rw [List.getD_eq_getElem?_getD, List.getElem?_eq_getElem hi]
    rfl
theorem OwnN.rd1 {w : World} {B : Nat} {a : Option Addr} {n cap : Nat} {ys : List Int} (h : OwnN w B (.slice a n cap) ys) : RdN w a ys := by
  obtain ⟨a', cap', e, _, _, hr, _⟩ := h.rd
  cases e
  exact hr
theorem OwnN.keep {w w' : World} {B : Nat} {v : Value} {ys : List Int} (h : OwnN w B v ys) (hs : ∀ g, v.ownBlock = some g → g < w.heap.size → w'.heap[g]? = w.heap[g]?) : OwnN w' B v ys := by
  obtain ⟨h1, h2 | ⟨g, cap, cur, rfl, hg, hh, r⟩⟩ := h
  · exact ⟨h1, .inl h2⟩
  · exact ⟨h1, .inr ⟨g, cap, cur, rfl, hg, (hs g rfl (Array.getElem?_eq_some_iff.1 hh).1).trans hh, r⟩⟩
theorem OwnN.later {w w' : World} {B : Nat} {v : Value} {ys : List Int} (h : OwnN w B v ys) (hb : Below w.heap.size w w') : OwnN w' B v ys := h.keep fun g _ hg => hb.block g hg
theorem OwnN.past {w w' : World} {B : Nat} {v : Value} {ys : List Int} {b : Nat} (h : OwnN w B v ys) (hb : w.grownBy w' (some b)) (hne : v.ownBlock ≠ some b) : OwnN w' B v ys :=
  h.keep fun g hv hg => hb.block g hg (by rw [← hv]; exact hne)
theorem OwnN.lt {w : World} {B : Nat} {v : Value} {ys : List Int} (h : OwnN w B v ys) {g : Nat} (hg : v.ownBlock = some g) : B ≤ g ∧ g < w.heap.size := World.ownsRow.lt h g hg
theorem OwnN.base {w : World} {B B' : Nat} {v : Value} {ys : List Int} (h : OwnN w B v ys) (hB : B' ≤ B) : OwnN w B' v ys := by
  obtain ⟨h1, h2 | ⟨g, cap, cur, e, hg, r⟩⟩ := h
  · exact ⟨h1, .inl h2⟩
  · exact ⟨h1, .inr ⟨g, cap, cur, e, Nat.le_trans hB hg, r⟩⟩
/-- An owned slice, written out: none, or in a block of its own. -/
theorem OwnN.form {w : World} {B : Nat} {v : Value} {ys : List Int} (h : OwnN w B v ys) : (v = .slice none 0 0 ∧ ys = []) ∨ ∃ g cap, v = .slice (some ⟨g, 0, none⟩) ys.length cap ∧ B ≤ g ∧ g < w.heap.size ∧ ys.length ≤ cap ∧ cap ≤ maxLen := by
  obtain ⟨_, ⟨h1, h2⟩ | ⟨g, cap, cur, rfl, hg, hh, hn, hm, r⟩⟩ := h
  · exact .inl ⟨h1, List.eq_nil_of_length_eq_zero h2⟩
  · exact .inr ⟨g, cap, rfl, hg, (Array.getElem?_eq_some_iff.1 hh).1, hn, hm⟩
theorem grownBy_trans {a b c : World} {r : Option Nat} (h : a.grownBy b r) (k : b.grownBy c r) : a.grownBy c r :=
  ⟨k.os.trans h.os, k.tape.trans h.tape, k.output.trans h.output, Nat.le_trans h.size k.size, fun j hj hn => (k.block j (Nat.lt_of_lt_of_le hj h.size) hn).trans (h.block j hj hn)⟩

theorem below_drewN {B : Nat} {a w : World} (h : Below B a w) (n : Nat) : Below B a (w.drewN n) := h.trans ⟨rfl, rfl, rfl, Nat.le_refl _, fun _ _ => rfl⟩

set_option maxHeartbeats 400000 in
theorem eqIntS_same (a b : Option Addr) (len c1 c2 : Nat) (xs : List Int) (w : World) (hl : xs.length = len) (hm : len ≤ 1099511627776) (h1 : RdN w a xs) (h2 : RdN w b xs) :
    Calls Try.prog 34 #[.slice a len c1, .slice b len c2] w fun e w' => e = .returned (.bool true) ∧ Below w.heap.size w w' := by
  go_enter Try.func34, Try.ntmps34
  go_wp2
  go_loopw [5] (fun i wr => ∃ k : Nat, k ≤ len ∧ i = .int .i64 k ∧ Below w.heap.size w wr) (fun i _ => len - (intOf i).toNat)
  case atStart => exact ⟨0, Nat.zero_le _, rfl, Below.refl _ _⟩
  case round =>
    obtain ⟨k, hk, rfl, hbel⟩ := hrel
    by_cases hlt : k < len
    · rcases h1 with rfl | ⟨p, po, rfl, hp, hpc⟩
      · simp at hl; omega
      rcases h2 with h0 | ⟨q, qo, rfl, hq, hqc⟩
      · rw [h0] at hl; simp at hl; omega
      have e1 : wr.cell? ⟨p, po + k, none⟩ = some (.int .i64 (nAt xs k)) := (hbel.cell (p := ⟨p, po + k, none⟩) hp).trans (hpc k (by omega))
      have e2 : wr.cell? ⟨q, qo + k, none⟩ = some (.int .i64 (nAt xs k)) := (hbel.cell (p := ⟨q, qo + k, none⟩) hq).trans (hqc k (by omega))
      clear hpc hqc
      go_wp2_with fail
      go_quiet (fail)
      go_wp2
      go_roundw
      case rel => exact ⟨k + 1, by omega, by go_num, below_drewN hbel _⟩
      case measure => simp [intOf]; omega
    · go_wp2
      go_ret
      exact ⟨rfl, hbel⟩

/-- What the marks leave: numbers from k on. -/
def markN (k n : Nat) : List Int := (List.range n).map fun (i : Nat) => (k : Int) + (i : Int)
theorem markN_length (k n : Nat) : (markN k n).length = n := by simp [markN]
theorem markN_at (k n i : Nat) (h : i < n) : nAt (markN k n) i = (k : Int) + i := by
  unfold nAt markN
  rw [List.getD_eq_getElem?_getD, List.getElem?_map, List.getElem?_range h]
  simp
theorem mark_step (k0 k : Nat) (xs : List Int) (h : k < xs.length) : (cellsN (markN k0 k ++ xs.drop k)).set k (.int .i64 ((k0 : Int) + k)) = cellsN (markN k0 (k + 1) ++ xs.drop (k + 1)) := by
  have e1 : markN k0 (k + 1) = markN k0 k ++ [(k0 : Int) + (k : Int)] := by simp [markN, List.range_succ]
  have e2 : xs.drop k = xs[k] :: xs.drop (k + 1) := List.drop_eq_getElem_cons h
  have e4 : (cellsN (markN k0 k)).length = k := by rw [cellsN_length, markN_length]
  have e6 : cellsN (xs.drop k) = cellsN [xs[k]] ++ cellsN (xs.drop (k + 1)) := by rw [e2, ← cellsN_append]; rfl
  rw [e1, cellsN_append, cellsN_append, cellsN_append, e6, List.set_append_right _ _ (by omega), e4, Nat.sub_self]
  simp [cellsN]

set_option maxHeartbeats 400000 in
theorem markS_any (b len cap k0 : Nat) (xs : List Int) (B : Nat) (w : World) (hl : xs.length = len) (hm : len ≤ 1099511627776) (hk0 : k0 ≤ 1048576) (hown : OwnN w B (.slice (some ⟨b, 0, none⟩) len cap) xs) :
    Calls Try.prog 35 #[.slice (some ⟨b, 0, none⟩) len cap, .int .i64 k0] w fun e w' => e = .returned (.int .i64 ((k0 : Int) + len)) ∧ OwnN w' B (.slice (some ⟨b, 0, none⟩) len cap) (markN k0 len) ∧ w.grownBy w' (some b) := by
  go_enter Try.func35, Try.ntmps35
  go_wp2
  go_loopw [1, 5] (fun kk i wr => ∃ k : Nat, k ≤ len ∧ i = .int .i64 k ∧ kk = .int .i64 ((k0 : Int) + k) ∧ wr.ownsRow B 3 1 (.slice (some ⟨b, 0, none⟩) len cap) len (cellsN (markN k0 k ++ xs.drop k)) ∧ w.grownBy wr (some b)) (fun _ i _ => len - (intOf i).toNat)
  case atStart => exact ⟨0, Nat.zero_le _, rfl, by simp, by simpa [markN, hl, OwnN] using hown, World.grownBy.refl _ _⟩
  case round =>
    clear hown
    obtain ⟨k, hk, rfl, rfl, hown, hg⟩ := hrel
    by_cases hlt : k < len
    · have hfz := hown.frozenAt k
      obtain ⟨u, hcx⟩ : ∃ u, wr.cell? ⟨b, k, none⟩ = some u := by
        rw [hown.cellAt k (by omega)]
        exact ⟨_, List.getElem?_eq_getElem (by rw [cellsN_length, List.length_append, markN_length, List.length_drop]; omega)⟩
      have st := hown.stored k (.int .i64 ((k0 : Int) + k))
      rw [mark_step k0 k xs (by omega)] at st
      have st1 := hide st.1
      have st2 := hide (grownBy_trans hg st.2)
      clear hown st hg
      go_wp2
      go_roundw
      case rel => exact ⟨k + 1, by omega, by go_num, by go_num, unhide st1, unhide st2⟩
      case measure => simp [intOf]; omega
    · go_wp2
      go_ret
      obtain rfl : k = len := by omega
      refine ⟨rfl, ?_, hg⟩
      unfold OwnN
      rw [markN_length]
      rw [List.drop_eq_nil_of_le (by omega), List.append_nil] at hown
      exact hown

set_option maxHeartbeats 400000 in
theorem heldS_any (a : Option Addr) (len cap k0 : Nat) (w : World) (hm : len ≤ 1099511627776) (hk0 : k0 ≤ 1048576) (hr : RdN w a (markN k0 len)) :
    Calls Try.prog 76 #[.slice a len cap, .int .i64 k0] w fun e w' => e = .returned (.int .i64 ((k0 : Int) + len)) ∧ w' = w := by
  go_enter Try.func76, Try.ntmps76
  go_wp2
  go_loop [1, 5] (fun kk i => ∃ k : Nat, k ≤ len ∧ i = .int .i64 k ∧ kk = .int .i64 ((k0 : Int) + k)) (fun _ i => len - (intOf i).toNat)
  case atStart => exact ⟨0, Nat.zero_le _, rfl, by simp⟩
  case round =>
    obtain ⟨k, hk, rfl, rfl⟩ := hrel
    by_cases hlt : k < len
    · rcases hr with h0 | ⟨b, off, rfl, hb, hc⟩
      · have := markN_length k0 len; rw [h0] at this; simp at this; omega
      have hcx := hc k (by rw [markN_length]; exact hlt)
      rw [markN_at k0 len k hlt] at hcx
      clear hc
      go_wp2
      go_round
      case rel => exact ⟨k + 1, by omega, by go_num, by go_num⟩
      case measure => simp [intOf]; omega
    · go_wp2
      go_ret
      obtain rfl : k = len := by omega
      exact ⟨rfl, rfl⟩
end Go.Proofs.Ytfkmibgamkignaa

namespace Go.Proofs.Ytfkmibgamkignaa
open Go.ChangeShapes Go.WideShapes Go.ChangeAt Go.RowKit
set_option linter.unusedVariables false
set_option maxRecDepth 8000

def IsRow (k : IntKind) (w : World) (a : Option Addr) (len cap : Nat) (zs : List Int) : Prop :=
  (a = none ∧ len = 0 ∧ cap = 0 ∧ zs = []) ∨
  ∃ x, a = some x ∧ len ≤ cap ∧ cap ≤ maxLen ∧ zs.length = cap ∧ (∀ i, i < zs.length → w.cell? (x.add i) = some (.int k (zs.getD i 0))) ∧ ∀ n ∈ zs, (Lit.int k n).wf = true

def bVal (xs : List UInt8) (i : Nat) : Value := .int .u8 (bAt xs i)

/-- A slice with address a reads as the bytes xs in the world w. -/
def Rd (w : World) (a : Option Addr) (xs : List UInt8) : Prop :=
  xs = [] ∨ ∃ b off, a = some ⟨b, off, none⟩ ∧ b < w.heap.size ∧ ∀ i, i < xs.length → w.cell? ⟨b, off + i, none⟩ = some (.int .u8 (bAt xs i))

theorem Rd.later {w w' : World} {a : Option Addr} {xs : List UInt8} (h : Rd w a xs) (hb : Below w.heap.size w w') : Rd w' a xs := by
  rcases h with h | ⟨b, off, ha, hlt, hc⟩
  · exact .inl h
  · exact .inr ⟨b, off, ha, Nat.lt_of_lt_of_le hlt hb.size, fun i hi => (hb.cell (p := ⟨b, off + i, none⟩) hlt).trans (hc i hi)⟩

theorem Rd.of_row {w : World} {b n : Nat} {xs : List UInt8} (h : w.rowIs b 5 n (bVal xs)) (hn : xs.length ≤ n) : Rd w (some ⟨b, 0, none⟩) xs :=
  .inr ⟨b, 0, rfl, h.lt, fun i hi => by simpa [bVal] using h.cell (i := i) (by omega)⟩

theorem bytes_of_ints (zs : List Int) (h : ∀ n ∈ zs, (Lit.int .u8 n).wf = true) : ∃ xs : List UInt8, xs.length = zs.length ∧ ∀ i, i < zs.length → zs.getD i 0 = bAt xs i := by
  refine ⟨zs.map fun z => UInt8.ofNat z.toNat, by simp, fun i hi => ?_⟩
  have hb := bounds_u8 (h (zs.getD i 0) (by rw [List.getD_eq_getElem?_getD, List.getElem?_eq_getElem hi]; exact List.getElem_mem _))
  unfold bAt
  rw [List.getD_eq_getElem?_getD, List.getD_eq_getElem?_getD, List.getElem?_map, List.getElem?_eq_getElem hi] at *
  simp at hb ⊢
  omega

theorem rd_of_row {w : World} {a : Option Addr} {len cap : Nat} {zs : List Int} (h : IsRow .u8 w a len cap zs) :
    ∃ xs : List UInt8, xs.length = len ∧ len ≤ cap ∧ cap ≤ maxLen ∧ Rd w a xs := by
  rcases h with ⟨rfl, rfl, rfl, rfl⟩ | ⟨x, rfl, hl, hm, hz, hcell, hwz⟩
  · exact ⟨[], rfl, Nat.le_refl _, by unfold maxLen; omega, .inl rfl⟩
  · obtain ⟨ys, hy, hv⟩ := bytes_of_ints zs hwz
    refine ⟨ys.take len, by simp; omega, hl, hm, ?_⟩
    by_cases h0 : len = 0
    · left; simp [h0]
    · right
      obtain ⟨b, off, spot⟩ := x
      have h00 := hcell 0 (by omega)
      have hspot : spot = none := by simpa [Addr.add] using World.cell?_spot h00
      subst hspot
      refine ⟨b, off, rfl, World.block_lt_of_cell? w _ h00, fun i hi => ?_⟩
      have hi' : i < len := by simp at hi; omega
      have := hcell i (by omega)
      rw [hv i (by omega)] at this
      have e : bAt (ys.take len) i = bAt ys i := by
        unfold bAt
        rw [List.getD_eq_getElem?_getD, List.getD_eq_getElem?_getD, List.getElem?_take, if_pos hi']
      rw [e]
      exact (show w.cell? ⟨b, off + i, none⟩ = _ by have h2 := this; unfold Addr.add at h2; by_cases hi0 : i = 0 <;> simpa [hi0] using h2)

def cellsB (ys : List UInt8) : List Value := ys.map fun y => .int .u8 (y.toNat : Int)

theorem cellsB_length (ys : List UInt8) : (cellsB ys).length = ys.length := by simp [cellsB]

theorem cellsB_append (a b : List UInt8) : cellsB (a ++ b) = cellsB a ++ cellsB b := by simp [cellsB]

theorem cellsB_one (ys : List UInt8) : ∀ u ∈ cellsB ys, u.oneCell' = true := by
  intro u hu
  simp only [cellsB, List.mem_map] at hu
  obtain ⟨y, _, rfl⟩ := hu
  rfl

theorem cellsB_get {ys : List UInt8} {j : Nat} {u : Value} (h : (cellsB ys)[j]? = some u) : j < ys.length ∧ u = .int .u8 (bAt ys j) := by
  simp only [cellsB, List.getElem?_map, Option.map_eq_some_iff] at h
  obtain ⟨y, hy, rfl⟩ := h
  have := (List.getElem?_eq_some_iff.1 hy).1
  exact ⟨this, by unfold bAt; rw [List.getD_eq_getElem?_getD, hy]; rfl⟩

/-- v is a slice of the call's own (blocks from B on) that holds the bytes ys. -/
def OwnB (w : World) (B : Nat) (v : Value) (ys : List UInt8) : Prop := w.ownsRow B 5 1 v ys.length (cellsB ys)

theorem rd_cells {w : World} {ad : Addr} {xs : List UInt8} (h : Rd w (some ad) xs) : ∀ j u, (cellsB xs)[j]? = some u → w.cell? (ad.add j) = some u := by
  intro j u hu
  obtain ⟨hj, rfl⟩ := cellsB_get hu
  rcases h with rfl | ⟨b, off, ha, hb, hc⟩
  · simp at hj
  · cases ha
    have := hc j hj
    unfold Addr.add
    by_cases h0 : j = 0
    · subst h0; simpa using this
    · simpa [h0] using this

theorem Rd.alloc {w : World} {a : Option Addr} {xs : List UInt8} (h : Rd w a xs) (o : Obj) : Rd (w.alloc o) a xs := h.later ((Below.refl _ _).alloc (Nat.le_refl _) _)

theorem ownB_empty (w : World) : (w.alloc (Obj.cells #[] 5)).ownsRow w.heap.size 5 1 (.slice (some ⟨w.heap.size, 0, none⟩) 0 0) 0 [] :=
  World.ownsRow_lit w #[] 0 (Nat.le_refl _) (by decide) rfl

theorem OwnB.rd {w : World} {B : Nat} {v : Value} {ys : List UInt8} (h : OwnB w B v ys) : ∃ a cap, v = .slice a ys.length cap ∧ ys.length ≤ cap ∧ cap ≤ maxLen ∧ Rd w a ys ∧ (∀ ad, a = some ad → B ≤ ad.block) ∧ (a = none → cap = 0) := by
  obtain ⟨_, ⟨rfl, h0⟩ | ⟨g, cap, cur, rfl, hg, hh, hn, hm, hs, ht⟩⟩ := id h
  · obtain rfl : ys = [] := List.eq_nil_of_length_eq_zero h0
    exact ⟨none, 0, rfl, Nat.le_refl _, Nat.zero_le _, .inl rfl, (fun _ h => by cases h), fun _ => rfl⟩
  · refine ⟨_, cap, rfl, hn, hm, .inr ⟨g, 0, rfl, (Array.getElem?_eq_some_iff.1 hh).1, fun i hi => ?_⟩, (fun ad h => by cases h; exact hg), fun h => by cases h⟩
    have h2 := World.ownsRow.cellAt h i (by omega)
    rw [Nat.zero_add, h2]
    simp only [cellsB, List.getElem?_map, List.getElem?_eq_getElem hi, Option.map_some]
    unfold bAt
    rw [List.getD_eq_getElem?_getD, List.getElem?_eq_getElem hi]
    rfl

theorem OwnB.rd1 {w : World} {B : Nat} {a : Option Addr} {n cap : Nat} {ys : List UInt8} (h : OwnB w B (.slice a n cap) ys) : Rd w a ys := by
  obtain ⟨a', cap', e, _, _, hr, _⟩ := h.rd
  cases e
  exact hr

theorem OwnB.keep {w w' : World} {B : Nat} {v : Value} {ys : List UInt8} (h : OwnB w B v ys) (hs : ∀ g, v.ownBlock = some g → g < w.heap.size → w'.heap[g]? = w.heap[g]?) : OwnB w' B v ys := by
  obtain ⟨h1, h2 | ⟨g, cap, cur, rfl, hg, hh, r⟩⟩ := h
  · exact ⟨h1, .inl h2⟩
  · exact ⟨h1, .inr ⟨g, cap, cur, rfl, hg, (hs g rfl (Array.getElem?_eq_some_iff.1 hh).1).trans hh, r⟩⟩

theorem OwnB.later {w w' : World} {B : Nat} {v : Value} {ys : List UInt8} (h : OwnB w B v ys) (hb : Below w.heap.size w w') : OwnB w' B v ys := h.keep fun g _ hg => hb.block g hg

theorem OwnB.past {w w' : World} {B : Nat} {v : Value} {ys : List UInt8} {b : Nat} (h : OwnB w B v ys) (hb : w.grownBy w' (some b)) (hne : v.ownBlock ≠ some b) : OwnB w' B v ys :=
  h.keep fun g hv hg => hb.block g hg (by rw [← hv]; exact hne)

theorem OwnB.lt {w : World} {B : Nat} {v : Value} {ys : List UInt8} (h : OwnB w B v ys) {g : Nat} (hg : v.ownBlock = some g) : B ≤ g ∧ g < w.heap.size := World.ownsRow.lt h g hg

/-- An owned slice that is not empty, written out. -/
theorem OwnB.form {w : World} {B : Nat} {v : Value} {ys : List UInt8} (h : OwnB w B v ys) (h0 : 0 < ys.length) : ∃ g cap, v = .slice (some ⟨g, 0, none⟩) ys.length cap ∧ B ≤ g ∧ g < w.heap.size ∧ ys.length ≤ cap ∧ cap ≤ maxLen := by
  obtain ⟨_, ⟨_, h2⟩ | ⟨g, cap, cur, rfl, hg, hh, hn, hm, r⟩⟩ := h
  · omega
  · exact ⟨g, cap, rfl, hg, (Array.getElem?_eq_some_iff.1 hh).1, hn, hm⟩

theorem Rd.past {w w' : World} {a : Option Addr} {xs : List UInt8} {b : Nat} (h : Rd w a xs) (hb : w.grownBy w' (some b)) (hne : ∀ ad, a = some ad → ad.block ≠ b) : Rd w' a xs := by
  rcases h with h | ⟨c, off, rfl, hlt, hc⟩
  · exact .inl h
  · exact .inr ⟨c, off, rfl, Nat.lt_of_lt_of_le hlt hb.size, fun i hi => (World.cell?_of_block (w := w) (hb.block c hlt (by have := hne _ rfl; simpa using this))).trans (hc i hi)⟩

theorem Rd.lt {w : World} {ad : Addr} {xs : List UInt8} (h : Rd w (some ad) xs) (h0 : 0 < xs.length) : ad.block < w.heap.size := by
  rcases h with rfl | ⟨c, off, e, hlt, _⟩
  · simp at h0
  · cases e; exact hlt

theorem i64_and255 (n : Int) : bits .and .i64 n 255 = n % 256 := by
  have h127 : (BitVec.ofInt 64 255).toNat = 2 ^ 8 - 1 := by decide
  have key : (BitVec.ofInt 64 n &&& BitVec.ofInt 64 255).toNat = (n % ((2 ^ 64 : Nat) : Int)).toNat % 2 ^ 8 := by
    rw [BitVec.toNat_and, BitVec.toNat_ofInt, h127, Nat.and_two_pow_sub_one_eq_mod]
  show IntKind.i64.wrap ((BitVec.ofInt 64 n &&& BitVec.ofInt 64 255).toNat : Nat) = n % 256
  rw [key, IntKind.wrap_i64]
  omega

/-- A cursor in block cb over a slice of bytes that reads as xs. -/
structure Cur (w : World) (cb : Nat) (a : Option Addr) (len cap : Nat) (xs : List UInt8) : Prop where
  c0 : w.cell? ⟨cb, 0, none⟩ = some (.slice a len cap)
  c1 : ∃ i : Nat, i ≤ len ∧ w.cell? ⟨cb, 1, none⟩ = some (.int .i64 i)
  c2 : ∃ h : Int, w.cell? ⟨cb, 2, none⟩ = some (.int .i64 h)
  f1 : w.frozen? ⟨cb, 1, none⟩ = false
  f2 : w.frozen? ⟨cb, 2, none⟩ = false
  rd : Rd w a xs
  ln : xs.length = len
  lm : len ≤ 9223372036854775806
  ne : xs = [] ∨ ∀ ad, a = some ad → ad.block ≠ cb

theorem Cur.lt {w : World} {cb : Nat} {a : Option Addr} {len cap : Nat} {xs : List UInt8} (h : Cur w cb a len cap xs) : cb < w.heap.size := World.block_lt_of_cell? w _ h.c0

theorem grownBy_set {w : World} {b o : Nat} (v : Value) : w.grownBy (w.setCell ⟨b, o, none⟩ v) (some b) :=
  ⟨rfl, rfl, rfl, by simp, fun k _ hk => Below.heap_setCell w ⟨b, o, none⟩ v k (fun e => hk (by simp [e]))⟩

theorem grownBy_drewN {w : World} (n : Nat) (r : Option Nat) : w.grownBy (w.drewN n) r := ⟨rfl, rfl, rfl, Nat.le_refl _, fun _ _ _ => rfl⟩

theorem Rd.past' {w w' : World} {a : Option Addr} {xs : List UInt8} {b : Nat} (h : Rd w a xs) (hb : w.grownBy w' (some b)) (hne : xs = [] ∨ ∀ ad, a = some ad → ad.block ≠ b) : Rd w' a xs := by
  rcases hne with h0 | hne
  · exact .inl h0
  · exact h.past hb hne

theorem Cur.draw {w : World} {cb : Nat} {a : Option Addr} {len cap : Nat} {xs : List UInt8} (h : Cur w cb a len cap xs) (n : Nat) : Cur (w.drewN n) cb a len cap xs :=
  ⟨h.c0, h.c1, h.c2, h.f1, h.f2, h.rd.later ⟨rfl, rfl, rfl, Nat.le_refl _, fun _ _ => rfl⟩, h.ln, h.lm, h.ne⟩

theorem Cur.set2 {w : World} {cb : Nat} {a : Option Addr} {len cap : Nat} {xs : List UInt8} (h : Cur w cb a len cap xs) (H : Int) : Cur (w.setCell ⟨cb, 2, none⟩ (.int .i64 H)) cb a len cap xs := by
  have hg : w.grownBy (w.setCell ⟨cb, 2, none⟩ (.int .i64 H)) (some cb) := grownBy_set _
  obtain ⟨c0, ⟨i, hi, c1⟩, ⟨h, c2⟩, f1, f2, rd, ln, lm, ne⟩ := h
  have rd' := rd.past' hg ne
  clear hg rd
  refine ⟨?_, ⟨i, hi, ?_⟩, ⟨H, ?_⟩, ?_, ?_, rd', ln, lm, ne⟩ <;> clear ne rd' <;> go_simp

theorem Cur.set1 {w : World} {cb : Nat} {a : Option Addr} {len cap : Nat} {xs : List UInt8} (h : Cur w cb a len cap xs) (j : Nat) (hj : j ≤ len) (v : Int) (hv : v = (j : Int)) : Cur (w.setCell ⟨cb, 1, none⟩ (.int .i64 v)) cb a len cap xs := by
  subst hv
  have hg : w.grownBy (w.setCell ⟨cb, 1, none⟩ (.int .i64 j)) (some cb) := grownBy_set _
  obtain ⟨c0, ⟨i, hi, c1⟩, ⟨h, c2⟩, f1, f2, rd, ln, lm, ne⟩ := h
  have rd' := rd.past' hg ne
  clear hg rd
  refine ⟨?_, ⟨j, hj, ?_⟩, ⟨h, ?_⟩, ?_, ?_, rd', ln, lm, ne⟩ <;> clear ne rd' <;> go_simp

set_option maxHeartbeats 800000 in
theorem byte_any (cb : Nat) (a : Option Addr) (len cap : Nat) (xs : List UInt8) (w : World) (hc : Cur w cb a len cap xs) :
    Calls Try.prog 81 #[.pointer (some ⟨cb, 0, none⟩)] w fun e w' => ∃ x : Int, 0 ≤ x ∧ x ≤ 255 ∧ e = .returned (.int .i64 x) ∧ Cur w' cb a len cap xs ∧ w.grownBy w' (some cb) := by
  have hcur := hide hc
  obtain ⟨c0, ⟨i, hi, c1⟩, ⟨h, c2⟩, f1, f2, rd, ln, lm, ne⟩ := hc
  by_cases hlt : i < len
  · rcases rd with rfl | ⟨b, off, rfl, hb, hcell⟩
    · simp at ln; omega
    have hne : b ≠ cb := by
      rcases ne with h0 | ne
      · rw [h0] at ln; simp at ln; omega
      · exact ne _ rfl
    have hil : (i : Int) < (len : Int) := by omega
    have hcx : ∀ v : Value, (w.setCell ⟨cb, 2, none⟩ v).cell? ⟨b, off + i, none⟩ = some (.int .u8 (bAt xs i)) := fun v => by
      rw [World.cell?_of_block (w := w) (Below.heap_setCell w _ v b hne)]; exact hcell i (by omega)
    have hbd := bAt_bd xs i
    have ne' := hide ne
    have hcell' := hide hcell
    clear ne hcell
    go_enter Try.func81, Try.ntmps81
    go_wp2
    generalize wrap64 (wrap64 (h * 6364136223846793005) + 1442695040888963407) = H
    go_quiet (fail)
    go_wp2
    go_quiet (fail)
    go_wp2
    go_quiet (fail)
    go_wp2
    go_ret
    refine ⟨_, ?_, ?_, rfl, ?_, ?_⟩
    · rw [i64_and255]; omega
    · rw [i64_and255]; omega
    · exact (((unhide hcur).set2 H).draw _).set1 (i + 1) hlt _ (by omega)
    · exact grownBy_trans (grownBy_trans (grownBy_set _) (grownBy_drewN _ _)) (grownBy_set _)
  · have hil : ¬ (i : Int) < (len : Int) := by omega
    have ne' := hide ne
    clear ne
    go_enter Try.func81, Try.ntmps81
    go_wp2
    generalize wrap64 (wrap64 (h * 6364136223846793005) + 1442695040888963407) = H
    go_quiet (fail)
    go_wp2
    go_quiet (fail)
    go_wp2
    go_ret
    refine ⟨_, ?_, ?_, rfl, ?_, ?_⟩
    · rw [i64_and255]; omega
    · rw [i64_and255]; omega
    · exact (((unhide hcur).set2 H).draw _).draw _
    · exact grownBy_trans (grownBy_trans (grownBy_set _) (grownBy_drewN _ _)) (grownBy_drewN _ _)

theorem Cur.code {w : World} {cb : Nat} {a : Option Addr} {len cap : Nat} {xs : List UInt8} (h : Cur w cb a len cap xs) : xs = [] ∨ ∀ ad, a = some ad → ad.block < w.heap.size := by
  rcases h.rd with h0 | ⟨b, off, rfl, hb, _⟩
  · exact .inl h0
  · exact .inr fun ad e => by cases e; exact hb

theorem Cur.past {w w' : World} {cb : Nat} {a : Option Addr} {len cap : Nat} {xs : List UInt8} {row : Option Nat} {B : Nat} (h : Cur w cb a len cap xs) (hg : w.grownBy w' row) (hB : cb < B) (hc : xs = [] ∨ ∀ ad, a = some ad → ad.block < B) (hr : ∀ g, row = some g → B ≤ g) : Cur w' cb a len cap xs := by
  have hlt := h.lt
  have hb : w'.heap[cb]? = w.heap[cb]? := hg.block cb hlt (fun e => by have := hr cb e.symm; omega)
  have hcell : ∀ o, w'.cell? ⟨cb, o, none⟩ = w.cell? ⟨cb, o, none⟩ := fun o => World.cell?_of_block (w := w) hb
  have hfr : ∀ o, w'.frozen? ⟨cb, o, none⟩ = w.frozen? ⟨cb, o, none⟩ := fun o => World.frozen?_of_block (w := w) hb
  refine ⟨(hcell 0).trans h.c0, ?_, ?_, (hfr 1).trans h.f1, (hfr 2).trans h.f2, ?_, h.ln, h.lm, h.ne⟩
  · obtain ⟨i, hi, c1⟩ := h.c1; exact ⟨i, hi, (hcell 1).trans c1⟩
  · obtain ⟨i, c2⟩ := h.c2; exact ⟨i, (hcell 2).trans c2⟩
  · rcases hc with h0 | hc
    · exact .inl h0
    · rcases h.rd with h0 | ⟨b, off, ha, hbl, hcl⟩
      · exact .inl h0
      · refine .inr ⟨b, off, ha, Nat.lt_of_lt_of_le hbl hg.size, fun i hi => ?_⟩
        refine (World.cell?_of_block (w := w) (hg.block b hbl (fun e => ?_))).trans (hcl i hi)
        have h1 := hr b e.symm
        have h2 := hc _ ha
        simp at h2
        omega

theorem Cur.later {w w' : World} {cb : Nat} {a : Option Addr} {len cap : Nat} {xs : List UInt8} (h : Cur w cb a len cap xs) (hb : Below w.heap.size w w') : Cur w' cb a len cap xs :=
  h.past (row := none) (B := w.heap.size) ⟨hb.os, hb.tape, hb.output, hb.size, fun k hk _ => hb.block k hk⟩ h.lt h.code (fun g e => by cases e)

theorem grownBy_below {w w' : World} {r : Option Nat} (hb : Below w.heap.size w w') : w.grownBy w' r := ⟨hb.os, hb.tape, hb.output, hb.size, fun k hk _ => hb.block k hk⟩

theorem grownBy_own {w w1 w2 : World} {r row : Option Nat} (h : w.grownBy w1 r) (k : w1.grownBy w2 row) (hr : ∀ g, row = some g → w.heap.size ≤ g) : w.grownBy w2 r :=
  ⟨k.os.trans h.os, k.tape.trans h.tape, k.output.trans h.output, Nat.le_trans h.size k.size, fun j hj hn => (k.block j (Nat.lt_of_lt_of_le hj h.size) (fun e => by have := hr j e.symm; omega)).trans (h.block j hj hn)⟩

set_option maxHeartbeats 400000 in
theorem below_any (cb : Nat) (a : Option Addr) (len cap : Nat) (xs : List UInt8) (n : Int) (w : World) (h63 : n ≤ 9223372036854775807) (hc : Cur w cb a len cap xs) :
    Calls Try.prog 47 #[.pointer (some ⟨cb, 0, none⟩), .int .i64 n] w fun e w' => ∃ x : Int, (0 < n → 0 ≤ x ∧ x < n) ∧ (n ≤ 0 → x = 0) ∧ e = .returned (.int .i64 x) ∧ Cur w' cb a len cap xs ∧ w.grownBy w' (some cb) := by
  by_cases h0 : n ≤ 0
  · go_enter Try.func47, Try.ntmps47
    go_wp2
    go_ret
    exact ⟨0, fun h => by omega, fun _ => rfl, rfl, hc, World.grownBy.refl _ _⟩
  · by_cases h1 : n ≤ 256
    · have hp : 0 < n := by omega
      go_enter Try.func47, Try.ntmps47
      go_wp2_with fail
      refine (byte_any cb a len cap xs w hc).mono ?_
      rintro e w1 ⟨x, hx0, hx1, rfl, hc1, hg1⟩
      go_wp2
      go_ret
      exact ⟨_, fun _ => ⟨Int.emod_nonneg _ (by omega), Int.emod_lt_of_pos _ hp⟩, fun h => by omega, rfl, hc1, hg1⟩
    · have hp : 0 < n := by omega
      go_enter Try.func47, Try.ntmps47
      go_wp2_with fail
      refine (byte_any cb a len cap xs w hc).mono ?_
      rintro e w1 ⟨x, hx0, hx1, rfl, hc1, hg1⟩
      go_wp2_with fail
      refine (byte_any cb a len cap xs w1 hc1).mono ?_
      rintro e w2 ⟨y, hy0, hy1, rfl, hc2, hg2⟩
      go_wp2_with fail
      refine (byte_any cb a len cap xs w2 hc2).mono ?_
      rintro e w3 ⟨z, hz0, hz1, rfl, hc3, hg3⟩
      go_wp2
      go_ret
      exact ⟨_, fun _ => ⟨Int.emod_nonneg _ (by omega), Int.emod_lt_of_pos _ hp⟩, fun h => by omega, rfl, hc3, grownBy_trans (grownBy_trans hg1 hg2) hg3⟩

set_option maxHeartbeats 400000 in
theorem once_any (cb : Nat) (a : Option Addr) (len cap : Nat) (xs : List UInt8) (n : Int) (w : World) (h63 : n ≤ 9223372036854775807) (hc : Cur w cb a len cap xs) :
    Calls Try.prog 63 #[.pointer (some ⟨cb, 0, none⟩), .int .i64 n] w fun e w' => ∃ b : Bool, e = .returned (.bool b) ∧ Cur w' cb a len cap xs ∧ w.grownBy w' (some cb) := by
  go_enter Try.func63, Try.ntmps63
  go_wp2_with fail
  refine (below_any cb a len cap xs n w h63 hc).mono ?_
  rintro e w1 ⟨x, hx0, hx1, rfl, hc1, hg1⟩
  go_wp2
  go_ret
  exact ⟨_, rfl, hc1, hg1⟩

theorem RdN.past {w w' : World} {a : Option Addr} {ns : List Int} {b : Nat} (h : RdN w a ns) (hb : w.grownBy w' (some b)) (hne : ∀ ad, a = some ad → ad.block ≠ b) : RdN w' a ns := by
  rcases h with h | ⟨c, off, rfl, hlt, hc⟩
  · exact .inl h
  · exact .inr ⟨c, off, rfl, Nat.lt_of_lt_of_le hlt hb.size, fun i hi => (World.cell?_of_block (w := w) (hb.block c hlt (by have := hne _ rfl; simpa using this))).trans (hc i hi)⟩

set_option maxHeartbeats 400000 in
theorem int_any (cb : Nat) (a : Option Addr) (len cap : Nat) (xs : List UInt8) (la : Option Addr) (m lc : Nat) (ns : List Int) (w : World) (hc : Cur w cb a len cap xs) (hn : RdN w la ns) (hne : ∀ ad, la = some ad → ad.block ≠ cb) (hm : ns.length = m) (h0 : 0 < m) (hb : m ≤ 1048576) :
    Calls Try.prog 48 #[.pointer (some ⟨cb, 0, none⟩), .slice la m lc] w fun e w' => ∃ j : Nat, j < m ∧ e = .returned (.int .i64 (nAt ns j)) ∧ Cur w' cb a len cap xs ∧ w.grownBy w' (some cb) := by
  rcases hn with rfl | ⟨b, off, rfl, hlt, hcl⟩
  · simp at hm; omega
  go_enter Try.func48, Try.ntmps48
  go_wp2_with fail
  refine (below_any cb a len cap xs m w (by omega) hc).mono ?_
  rintro e w1 ⟨x, hx0, hx1, rfl, hc1, hg1⟩
  obtain ⟨hx2, hx3⟩ := hx0 (by omega)
  obtain ⟨j, rfl⟩ := Int.eq_ofNat_of_zero_le hx2
  have hj : j < m := by omega
  have hcx : w1.cell? ⟨b, off + j, none⟩ = some (.int .i64 (nAt ns j)) := (World.cell?_of_block (w := w) (hg1.block b hlt (by have := hne _ rfl; simpa using this))).trans (hcl j (by omega))
  clear hx0 hx1 hcl
  go_wp2
  go_ret
  exact ⟨j, hj, rfl, hc1, hg1⟩

theorem i64_and30 (n : Int) : bits .and .i64 n 1073741823 = n % 1073741824 := by
  have h127 : (BitVec.ofInt 64 1073741823).toNat = 2 ^ 30 - 1 := by decide
  have key : (BitVec.ofInt 64 n &&& BitVec.ofInt 64 1073741823).toNat = (n % ((2 ^ 64 : Nat) : Int)).toNat % 2 ^ 30 := by
    rw [BitVec.toNat_and, BitVec.toNat_ofInt, h127, Nat.and_two_pow_sub_one_eq_mod]
  show IntKind.i64.wrap ((BitVec.ofInt 64 n &&& BitVec.ofInt 64 1073741823).toNat : Nat) = n % 1073741824
  rw [key, IntKind.wrap_i64]
  omega

theorem cur_new (w : World) (a : Option Addr) (len cap : Nat) (xs : List UInt8) (h : Int) (hl : xs.length = len) (hm : len ≤ 1048576) (hr : Rd w a xs) :
    Cur (w.alloc (.cells #[.slice a len cap, .int .i64 0, .int .i64 h] 105)) w.heap.size a len cap xs := by
  have hr' := hr.alloc (.cells #[.slice a len cap, .int .i64 0, .int .i64 h] 105)
  have hne : xs = [] ∨ ∀ ad, a = some ad → ad.block ≠ w.heap.size := by
    rcases hr with h0 | ⟨b, off, rfl, hb, _⟩
    · exact .inl h0
    · exact .inr fun ad e => by cases e; exact Nat.ne_of_lt hb
  clear hr
  refine ⟨?_, ⟨0, Nat.zero_le _, ?_⟩, ⟨h, ?_⟩, ?_, ?_, hr', hl, by omega, hne⟩ <;> clear hr' hne <;> go_simp

set_option maxRecDepth 100000 in
set_option maxHeartbeats 400000 in
theorem new_any (a : Option Addr) (len cap : Nat) (xs : List UInt8) (w : World) (hl : xs.length = len) (hm : len ≤ 1048576) (hr : Rd w a xs) :
    Calls Try.prog 45 #[.slice a len cap] w fun e w' => e = .returned (.pointer (some ⟨w.heap.size, 0, none⟩)) ∧ Cur w' w.heap.size a len cap xs ∧ Below w.heap.size w w' := by
  go_enter Try.func45, Try.ntmps45
  go_wp2
  go_loop [3, 4] (fun n i => ∃ (k : Nat) (h : Int), k ≤ len ∧ 0 ≤ h ∧ h ≤ 1073741823 ∧ i = .int .i64 k ∧ n = .int .i64 h) (fun _ i => len - (intOf i).toNat)
  case atStart => exact ⟨0, _, Nat.zero_le _, by omega, by omega, rfl, rfl⟩
  case round =>
    obtain ⟨k, h, hk, hh0, hh1, rfl, rfl⟩ := hrel
    by_cases hlt : k < len
    · by_cases h4 : k < 4000
      · have hr0 := hr
        rcases hr with rfl | ⟨b, off, rfl, hb, hc⟩
        · simp at hl; omega
        have hcx := hc k (by omega)
        have hbd := bAt_bd xs k
        clear hc hr0
        go_wp2
        go_round
        case rel => exact ⟨k + 1, _, by omega, by rw [i64_and30]; omega, by rw [i64_and30]; omega, by go_num, rfl⟩
        case measure => simp [intOf]; omega
      · go_wp2
        go_ret
        exact ⟨rfl, cur_new w a len cap xs h hl hm hr, (Below.refl _ _).alloc (Nat.le_refl _) _⟩
    · go_wp2
      go_ret
      exact ⟨rfl, cur_new w a len cap xs h hl hm hr, (Below.refl _ _).alloc (Nat.le_refl _) _⟩

theorem RdN_lit (w : World) (ns : List Int) : RdN (w.alloc (.cells (ns.map (Value.int .i64)).toArray 3)) (some ⟨w.heap.size, 0, none⟩) ns := by
  refine .inr ⟨w.heap.size, 0, rfl, by simp, fun i hi => ?_⟩
  rw [World.cell?_alloc_at _ _ _ _ rfl]
  simp [nAt, hi]

theorem below_of_new {w w1 w2 : World} (h : Below w.heap.size w w1) (g : w1.grownBy w2 (some w.heap.size)) : Below w.heap.size w w2 := h.grown g h.size (fun k e => by cases e; exact Nat.le_refl _)

theorem big_any (a : Option Addr) (len cap : Nat) (w : World) (hm : len ≤ 9223372036854775807) : Calls Try.prog 11 #[.slice a len cap] w fun e w' => e = .returned (.bool (decide ((1048576 : Int) < (len : Int)))) ∧ w' = w := by
  go_enter Try.func11, Try.ntmps11
  go_wp2
  go_ret
  exact ⟨rfl, rfl⟩
end Go.Proofs.Ytfkmibgamkignaa

namespace Go.Proofs.Ytfkmibgamkignaa
open Go.ChangeShapes Go.WideShapes Go.ChangeAt Go.RowKit
set_option linter.unusedVariables false
set_option maxRecDepth 8000

theorem eqIntS_own (v u : Value) (ns : List Int) (B C : Nat) (w : World) (hm : ns.length ≤ 1048576) (h : OwnN w B v ns) (k : OwnN w C u ns) :
    Calls Try.prog 34 #[v, u] w fun e w' => e = .returned (.bool true) ∧ Below w.heap.size w w' := by
  obtain ⟨a, cap, rfl, _, _, hr, _⟩ := h.rd
  obtain ⟨b, cap2, rfl, _, _, hr2, _⟩ := k.rd
  exact eqIntS_same a b ns.length cap cap2 ns w rfl (by omega) hr hr2

theorem OwnN.apart {w w' : World} {B C : Nat} {v u : Value} {ns ms : List Int} (h : OwnN w B v ns) (k : OwnN w C u ms) (hg : w.grownBy w' u.ownBlock) (hlt : ∀ g, v.ownBlock = some g → g < C) : OwnN w' B v ns :=
  h.keep fun g hv hl => hg.block g hl (fun e => by have := (k.lt e.symm).1; have := hlt g hv; omega)

set_option maxHeartbeats 400000 in
theorem toIntS_any (a : Option Addr) (len cap : Nat) (xs : List Int) (w : World) (hl : xs.length = len) (hm : len ≤ 1048576) (hr : RdN w a xs) :
    Calls Try.prog 32 #[.slice a len cap] w fun e w' => ∃ v, e = .returned v ∧ OwnN w' w.heap.size v xs ∧ Below w.heap.size w w' := by
  have hmk := run_make_row' (P := Try.prog) 24 3 (.int .i64 0) 8 Try.underlying24 info3 rfl .i64 .i64 len (by omega) (by omega)
  go_enter Try.func32, Try.ntmps32
  go_wp2
  go_loopw [4] (fun i wr => ∃ k : Nat, k ≤ len ∧ i = .int .i64 k ∧ wr.rowIs w.heap.size 3 len (fun j => if j < k then .int .i64 (nAt xs j) else .int .i64 0) ∧ Below w.heap.size w wr) (fun i _ => len - (intOf i).toNat)
  case atStart => exact ⟨0, Nat.zero_le _, rfl, (World.rowIs_made w (.int .i64 0) len 3).congr (fun i hi => by simp), (Below.refl _ _).alloc (Nat.le_refl _) _⟩
  case round =>
    obtain ⟨k, hk, rfl, hrow, hbel⟩ := hrel
    by_cases hlt : k < len
    · rcases hr with rfl | ⟨b, off, rfl, hb, hc⟩
      · simp at hl; omega
      have hcx : wr.cell? ⟨b, off + k, none⟩ = some (.int .i64 (nAt xs k)) := (hbel.cell (p := ⟨b, off + k, none⟩) hb).trans (hc k (by omega))
      have hfz := hrow.frozen k
      have hco := hrow.cell hlt
      have hR := (hrow.set k (.int .i64 (nAt xs k))).congr (g := fun j => if j < k + 1 then .int .i64 (nAt xs j) else .int .i64 0) (fun j hj => by
        by_cases e : j = k
        · simp [e]
        · by_cases e2 : j < k
          · simp [e, e2, show j < k + 1 by omega]
          · simp [e, e2, show ¬ j < k + 1 by omega])
      have hB := hbel.setCell (p := ⟨w.heap.size, k, none⟩) (Nat.le_refl _) (.int .i64 (nAt xs k))
      clear hrow hbel
      go_wp2
      go_roundw
      case rel => exact ⟨k + 1, by omega, by go_num, hR, hB⟩
      case measure => simp [intOf]; omega
    · have hR := hrow.congr (g := fun j => .int .i64 (nAt xs j)) (fun j hj => by simp [show j < k by omega])
      clear hrow
      go_wp2
      go_ret
      refine ⟨.slice (some ⟨w.heap.size, 0, none⟩) len len, rfl, ?_, hbel⟩
      obtain ⟨c, hc, hs, hv⟩ := hR
      refine ⟨by rw [cellsN_length]; omega, .inr ⟨w.heap.size, len, c, by rw [hl], Nat.le_refl _, hc, by omega, by unfold maxLen; omega, by omega, ?_⟩⟩
      rw [hl, Nat.mul_one, List.take_of_length_le (by simp; omega)]
      apply List.ext_getElem?
      intro i
      by_cases hi : i < len
      · rw [Array.getElem?_toList, hv i hi]
        simp only [cellsN, List.getElem?_map, List.getElem?_eq_getElem (show i < xs.length by omega), Option.map_some, nAt, List.getD_eq_getElem?_getD, Option.getD_some]
      · rw [List.getElem?_eq_none (by simp; omega), List.getElem?_eq_none (by rw [cellsN_length]; omega)]

def Bds (ns : List Int) : Prop := ∀ i, i < ns.length → -9223372036854775808 ≤ nAt ns i ∧ nAt ns i ≤ 9223372036854775807

theorem rdN_of_row {w : World} {a : Option Addr} {len cap : Nat} {zs : List Int} (h : IsRow .i64 w a len cap zs) :
    ∃ ns : List Int, ns.length = len ∧ len ≤ cap ∧ cap ≤ maxLen ∧ RdN w a ns ∧ Bds ns := by
  rcases h with ⟨rfl, rfl, rfl, rfl⟩ | ⟨x, rfl, hl, hm, hz, hcell, hwz⟩
  · exact ⟨[], rfl, Nat.le_refl _, by unfold maxLen; omega, .inl rfl, fun i hi => by simp at hi⟩
  · have hat : ∀ i, i < len → nAt (zs.take len) i = zs.getD i 0 := fun i hi => by
      unfold nAt
      rw [List.getD_eq_getElem?_getD, List.getD_eq_getElem?_getD, List.getElem?_take, if_pos hi]
    refine ⟨zs.take len, by simp; omega, hl, hm, ?_, fun i hi => ?_⟩
    · by_cases h0 : len = 0
      · left; simp [h0]
      · right
        obtain ⟨b, off, spot⟩ := x
        have h00 := hcell 0 (by omega)
        have hspot : spot = none := by simpa [Addr.add] using World.cell?_spot h00
        subst hspot
        refine ⟨b, off, rfl, World.block_lt_of_cell? w _ h00, fun i hi => ?_⟩
        have hi' : i < len := by simp at hi; omega
        have := hcell i (by omega)
        rw [hat i hi']
        exact (show w.cell? ⟨b, off + i, none⟩ = _ by have h2 := this; unfold Addr.add at h2; by_cases hi0 : i = 0 <;> simpa [hi0] using h2)
    · have hi' : i < len := by simp at hi; omega
      rw [hat i hi']
      have := bounds_i64 (hwz (zs.getD i 0) (by rw [List.getD_eq_getElem?_getD, List.getElem?_eq_getElem (by omega)]; exact List.getElem_mem _))
      omega

set_option maxHeartbeats 400000 in
theorem sameInts_any (a b : Option Addr) (len c1 c2 : Nat) (xs : List Int) (w : World) (hl : xs.length = len) (hm : len ≤ 1099511627776) (h1 : RdN w a xs) (h2 : RdN w b xs) :
    Calls Try.prog 31 #[.slice a len c1, .slice b len c2] w fun e w' => e = .returned (.bool true) ∧ Below w.heap.size w w' := by
  go_enter Try.func31, Try.ntmps31
  go_wp2
  go_loopw [5] (fun i wr => ∃ k : Nat, k ≤ len ∧ i = .int .i64 k ∧ Below w.heap.size w wr) (fun i _ => len - (intOf i).toNat)
  case atStart => exact ⟨0, Nat.zero_le _, rfl, Below.refl _ _⟩
  case round =>
    obtain ⟨k, hk, rfl, hbel⟩ := hrel
    by_cases hlt : k < len
    · rcases h1 with rfl | ⟨p, po, rfl, hp, hpc⟩
      · simp at hl; omega
      rcases h2 with h0 | ⟨q, qo, rfl, hq, hqc⟩
      · rw [h0] at hl; simp at hl; omega
      have e1 : wr.cell? ⟨p, po + k, none⟩ = some (.int .i64 (nAt xs k)) := (hbel.cell (p := ⟨p, po + k, none⟩) hp).trans (hpc k (by omega))
      have e2 : wr.cell? ⟨q, qo + k, none⟩ = some (.int .i64 (nAt xs k)) := (hbel.cell (p := ⟨q, qo + k, none⟩) hq).trans (hqc k (by omega))
      clear hpc hqc
      go_wp2_with fail
      go_quiet (fail)
      go_wp2
      go_roundw
      case rel => exact ⟨k + 1, by omega, by go_num, below_drewN hbel _⟩
      case measure => simp [intOf]; omega
    · go_wp2
      go_ret
      exact ⟨rfl, hbel⟩
end Go.Proofs.Ytfkmibgamkignaa

namespace Go.Proofs.Ytfkmibgamkignaa
open Go.ChangeShapes Go.WideShapes Go.ChangeAt Go.RowKit
set_option linter.unusedVariables false
set_option maxRecDepth 8000

theorem markS_none (k0 : Nat) (w : World) (hk0 : k0 ≤ 1048576) : Calls Try.prog 35 #[.slice none 0 0, .int .i64 k0] w fun e w' => e = .returned (.int .i64 (k0 : Int)) ∧ w' = w := by
  go_enter Try.func35, Try.ntmps35
  go_wp2
  go_loop [1, 5] (fun kk i => kk = .int .i64 k0 ∧ i = .int .i64 0) (fun _ _ => 0)
  case atStart => exact ⟨rfl, rfl⟩
  case round =>
    obtain ⟨rfl, rfl⟩ := hrel
    go_wp2
    go_ret
    exact ⟨rfl, rfl⟩

theorem markS_own (v : Value) (ns : List Int) (B : Nat) (w : World) (hm : ns.length ≤ 1048576) (h : OwnN w B v ns) :
    Calls Try.prog 35 #[v, .int .i64 1] w fun e w' => e = .returned (.int .i64 (1 + (ns.length : Int))) ∧ OwnN w' B v (markN 1 ns.length) ∧ w.grownBy w' v.ownBlock := by
  rcases h.form with ⟨rfl, rfl⟩ | ⟨g, cap, rfl, hg, hlt, hc, hm2⟩
  · exact (markS_none 1 w (by omega)).mono fun e w' ⟨he, hw⟩ => by subst hw; exact ⟨he, ownN_none _ _, World.grownBy.refl _ _⟩
  · exact (markS_any g ns.length cap 1 ns B w rfl (by omega) (by omega) h).mono fun e w' ⟨he, ho, hg⟩ => ⟨he, ho, hg⟩

theorem heldS_own (v : Value) (n : Nat) (B : Nat) (w : World) (hm : n ≤ 1048576) (h : OwnN w B v (markN 1 n)) :
    Calls Try.prog 76 #[v, .int .i64 1] w fun e w' => e = .returned (.int .i64 (1 + (n : Int))) ∧ w' = w := by
  obtain ⟨a, cap, rfl, _, _, hr, _⟩ := h.rd
  rw [markN_length]
  exact heldS_any a n cap 1 w (by omega) (by omega) hr
end Go.Proofs.Ytfkmibgamkignaa

namespace Go.Proofs.Ytfkmibgamkignaa
open Go.ChangeShapes Go.WideShapes Go.ChangeAt Go.RowKit
set_option linter.unusedVariables false
set_option maxRecDepth 8000

/-- A world that keeps what w0 has below B. -/
structure Sub (B : Nat) (w0 : World) where
  w : World
  h : Below B w0 w
theorem Sub.ne (B : Nat) (w0 : World) : Nonempty (Sub B w0) := ⟨⟨w0, Below.refl _ _⟩⟩
section
variable {B : Nat} {w0 : World} {P : Program}
theorem Sub.call {f : FuncId} {args : Array Value} {x : Sub B w0} {v : Value} (hB : B ≤ w0.heap.size) (h : Calls P f args x.w fun e w' => e = .returned v ∧ Below x.w.heap.size x.w w') : Calls P f args x.w fun e w' => e = .returned v ∧ ∃ y : Sub B w0, w' = y.w :=
  h.mono fun e w' ⟨he, hb⟩ => ⟨he, ⟨w', x.h.trans (hb.mono (Nat.le_trans hB x.h.size))⟩, rfl⟩
theorem Sub.same {f : FuncId} {args : Array Value} {x : Sub B w0} {v : Value} (h : Calls P f args x.w fun e w' => e = .returned v ∧ w' = x.w) : Calls P f args x.w fun e w' => e = .returned v ∧ ∃ y : Sub B w0, w' = y.w :=
  h.mono fun e w' ⟨he, hb⟩ => ⟨he, x, hb⟩
def Sub.top (o : World) (b : Obj) : Sub (o.heap.size + 1) (o.alloc b) := ⟨_, Below.refl _ _⟩
theorem Sub.cells {o : World} {cs : Array Value} {t : TypeId} (y : Sub (o.heap.size + 1) (o.alloc (Obj.cells cs t))) (j : Nat) (v : Value) (h : cs[j]? = some v) : y.w.cell? ⟨o.heap.size, j, none⟩ = some v :=
  box_cells o cs t y.w y.h j v h
theorem wp_region_sub {id : Nat} {Q : Exit → Act → World → Prop} {a : Act} (x : Sub B w0) {l : List Oper} (hm : P.follows .mixedOrders = true) (hB : Region.lexB .any l.toArray = true)
    (h : wpQuiet P l.toArray (fun w' => ∃ y : Sub B w0, w' = y.w) (fun a' => ∀ y : Sub B w0, Q .normal a' y.w) l a) : (Code.region id l.toArray true).wp P Q a x.w :=
  wp_region_quiet (C := fun w' => ∃ y : Sub B w0, w' = y.w) hm hB ⟨⟨_, x.h.drew⟩, rfl⟩ (by
    have e : (fun a' => ∀ w', (∃ y : Sub B w0, w' = y.w) → Q .normal a' w') = (fun a' => ∀ y : Sub B w0, Q .normal a' y.w) := by
      funext a'
      apply propext
      constructor
      · intro h y; exact h _ ⟨y, rfl⟩
      · rintro h _ ⟨y, rfl⟩; exact h y
    rw [e]
    simpa using h)
end
end Go.Proofs.Ytfkmibgamkignaa
