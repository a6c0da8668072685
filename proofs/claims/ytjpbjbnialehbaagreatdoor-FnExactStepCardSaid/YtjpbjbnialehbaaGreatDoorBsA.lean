/- Contracts over this seat's translation, laid together; conditions stand as hypotheses of each. -/
import Derived.Deep.RegionHeld
import Derived.Deep.WholeRow
import Derived.Deep.RegionWith
import Derived.Laws.CopyOwn
import Derived.Deep.DeepMust
import Derived.WalkKit
import Derived.ProofKit
import Derived.OpenShut
import Derived.ShutString
import Derived.ChangeOld
import Derived.Below
import Derived.Deep.OwnRows
import Derived.WalkSpells
import Derived.Laws.AppendOwnNone
import Derived.Laws.OwnMore
import Derived.BigQuiet
import Derived.Laws.BitsLemmas
import Derived.WalkLawsBesides
import Derived.Laws.ResultCell
import Derived.Laws.Rows
import Derived.Test.YtjpbjbnialehbaaGreatDoorProg
import GoSem.Claim
import Derived.JoinedTies
import Derived.KernelRfl

namespace Go.Proofs.YtjpbjbnialehbaaGreatDoor
open Go.ChangeShapes Go.WideShapes Go.ChangeAt Go.RowKit
set_option linter.unusedVariables false
set_option maxRecDepth 8000
theorem hide {p : Prop} (h : p) : Hid p := h
theorem unhide {p : Prop} (h : Hid p) : p := h
/-- An operand: mode, register, word. -/
structure Od where
  m : Int
  r : Int
  x : Int
/-- An instruction. -/
structure Is where
  op : Int
  s : Od
  d : Od
  n : Int
def Od.v (o : Od) : Value := .agg #[.int .i64 o.m, .int .i64 o.r, .int .i64 o.x]
def Is.v (i : Is) : Value := .agg #[.int .i64 i.op, .int .i64 i.s.m, .int .i64 i.s.r, .int .i64 i.s.x, .int .i64 i.d.m, .int .i64 i.d.r, .int .i64 i.d.x, .int .i64 i.n]
def inB (x a b : Int) : Bool := decide (a ≤ x) && decide (x ≤ b)
def Od.hasX (o : Od) : Bool := (o.m == 6 || o.m == 7) || (o.r == 7 && (o.m == 2 || o.m == 3))
def Od.ok (o : Od) : Bool := ((inB o.m 0 7 && inB o.r 0 7) && inB o.x 0 65535) && (o.hasX || o.x == 0)
def Od.zero (o : Od) : Bool := o.m == 0 && (o.r == 0 && o.x == 0)
def Is.ok (i : Is) : Bool :=
  if inB i.op 1 6 = true then (i.s.ok && i.d.ok) && i.n == 0
  else if inB i.op 7 14 = true then (i.s.zero && i.d.ok) && i.n == 0
  else if i.op == 15 then (i.s.zero && i.d.ok) && inB i.n 0 7
  else if (!i.s.zero || !i.d.zero) = true then false
  else if i.op == 16 then inB i.n 0 7
  else if inB i.op 17 21 = true then inB i.n (-128) 127
  else if i.op == 22 then i.n == 0
  else if i.op == 23 then inB i.n 0 255
  else false
def Is.words (i : Is) : Int := 1 + (if (inB i.op 1 6 && i.s.hasX) = true then 1 else 0) + (if (inB i.op 1 15 && i.d.hasX) = true then 1 else 0)
theorem in_any (x a b : Int) (w : World) : Calls Tryz.prog 31 #[.int .i64 x, .int .i64 a, .int .i64 b] w fun e w' => e = .returned (.bool (inB x a b)) ∧ w' = w := by
  unfold inB
  by_cases h1 : a ≤ x
  · rw [decide_eq_true h1, Bool.true_and]
    go_enter Tryz.func31, Tryz.ntmps31
    go_wp2
    go_ret
    exact ⟨rfl, rfl⟩
  · rw [decide_eq_false h1, Bool.false_and]
    have h3 : decide (a ≤ x) = false := decide_eq_false h1
    go_enter Tryz.func31, Tryz.ntmps31
    go_wp2
    go_ret
    exact ⟨rfl, rfl⟩
set_option maxHeartbeats 1000000 in
theorem hasX_any (o : Od) (w : World) : Calls Tryz.prog 87 #[o.v] w fun e w' => e = .returned (.bool o.hasX) ∧ Below w.heap.size w w' := by
  obtain ⟨m, r, x⟩ := o
  unfold Od.hasX Od.v
  simp only
  have hB := hide ((Below.refl w.heap.size w).alloc (Nat.le_refl _) (Obj.cells #[.int .i64 m, .int .i64 r, .int .i64 x] 67))
  cases h6 : (m == 6)
  · cases h7 : (m == 7)
    · cases h8 : (r == 7)
      · go_enter Tryz.func87, Tryz.ntmps87
        go_wp2
        go_ret
        exact ⟨rfl, unhide hB⟩
      · cases h2 : (m == 2)
        · go_enter Tryz.func87, Tryz.ntmps87
          go_wp2
          go_ret
          exact ⟨rfl, unhide hB⟩
        · go_enter Tryz.func87, Tryz.ntmps87
          go_wp2
          go_ret
          exact ⟨rfl, unhide hB⟩
    · go_enter Tryz.func87, Tryz.ntmps87
      go_wp2
      go_ret
      exact ⟨rfl, unhide hB⟩
  · go_enter Tryz.func87, Tryz.ntmps87
    go_wp2
    go_ret
    exact ⟨rfl, unhide hB⟩
set_option maxHeartbeats 1000000 in
theorem opdOk_any (o : Od) (w : World) : Calls Tryz.prog 120 #[o.v] w fun e w' => e = .returned (.bool o.ok) ∧ Below w.heap.size w w' := by
  have HX := hide (fun w => hasX_any o w)
  obtain ⟨m, r, x⟩ := o
  unfold Od.ok
  obtain ⟨q, hq⟩ : ∃ q, Od.hasX ⟨m, r, x⟩ = q := ⟨_, rfl⟩
  rw [hq] at HX ⊢
  clear hq
  unfold Od.v at HX ⊢
  simp only at HX ⊢
  have hB := hide ((Below.refl w.heap.size w).alloc (Nat.le_refl _) (Obj.cells #[.int .i64 m, .int .i64 r, .int .i64 x] 67))
  cases h1 : inB m 0 7
  · go_enter Tryz.func120, Tryz.ntmps120
    go_wp2_with (go_at_call 31; refine (in_any _ _ _ _).mono ?_; rintro e w' ⟨rfl, hw'⟩; rw [hw']; clear hw' w')
    go_ret
    exact ⟨rfl, unhide hB⟩
  · cases h2 : inB r 0 7
    · go_enter Tryz.func120, Tryz.ntmps120
      go_wp2_with (go_at_call 31; refine (in_any _ _ _ _).mono ?_; rintro e w' ⟨rfl, hw'⟩; rw [hw']; clear hw' w')
      go_ret
      exact ⟨rfl, unhide hB⟩
    · cases h3 : inB x 0 65535
      · go_enter Tryz.func120, Tryz.ntmps120
        go_wp2_with (go_at_call 31; refine (in_any _ _ _ _).mono ?_; rintro e w' ⟨rfl, hw'⟩; rw [hw']; clear hw' w')
        go_ret
        exact ⟨rfl, unhide hB⟩
      · have hz : (w.alloc (Obj.cells #[.int .i64 m, .int .i64 r, .int .i64 x] 67)).heap.size = w.heap.size + 1 := by simp
        have hcl : ∀ w', Below (w.heap.size + 1) (w.alloc (Obj.cells #[.int .i64 m, .int .i64 r, .int .i64 x] 67)) w' → w'.cell? ⟨w.heap.size, 2, none⟩ = some (.int .i64 x) := fun w' hb => (hb.cell (p := ⟨w.heap.size, 2, none⟩) (by simp)).trans (by simp)
        have HZ := hide hz
        have HCL := hide hcl
        clear hz hcl
        go_enter Tryz.func120, Tryz.ntmps120
        go_wp2_with (go_at_call 31; refine (in_any _ _ _ _).mono ?_; rintro e w' ⟨rfl, hw'⟩; rw [hw']; clear hw' w')
        refine (unhide HX _).mono ?_
        rintro e w2 ⟨rfl, hb2⟩
        rw [unhide HZ] at hb2
        have hcx := unhide HCL w2 hb2
        have B2 := hide ((unhide hB).trans (hb2.mono (by omega)))
        clear hb2 HX
        cases q
        · go_wp2
          go_ret
          exact ⟨rfl, unhide B2⟩
        · go_wp2
          go_ret
          exact ⟨rfl, unhide B2⟩
end Go.Proofs.YtjpbjbnialehbaaGreatDoor

namespace Go.Proofs.YtjpbjbnialehbaaGreatDoor
open Go.ChangeShapes Go.WideShapes Go.ChangeAt Go.RowKit
set_option linter.unusedVariables false
set_option maxRecDepth 8000
set_option maxHeartbeats 1000000 in
theorem zero_any (o : Od) (w : World) : Calls Tryz.prog 121 #[o.v] w fun e w' => e = .returned (.bool o.zero) ∧ Below w.heap.size w w' := by
  obtain ⟨m, r, x⟩ := o
  unfold Od.zero Od.v
  simp only
  go_enter Tryz.func121, Tryz.ntmps121
  go_wp2
  all_goals go_ret
  all_goals refine ⟨?_, (Below.refl _ _).alloc (Nat.le_refl _) _⟩
  all_goals simp_all
end Go.Proofs.YtjpbjbnialehbaaGreatDoor

namespace Go.Proofs.YtjpbjbnialehbaaGreatDoor
open Go.ChangeShapes Go.WideShapes Go.ChangeAt Go.RowKit
set_option linter.unusedVariables false
set_option maxRecDepth 8000
set_option linter.unusedSimpArgs false
theorem box_cells (w : World) (cs : Array Value) (t : TypeId) : ∀ w', Below (w.heap.size + 1) (w.alloc (Obj.cells cs t)) w' → ∀ j v, cs[j]? = some v → w'.cell? ⟨w.heap.size, j, none⟩ = some v := fun w' hb j v hv =>
  (hb.cell (p := ⟨w.heap.size, j, none⟩) (by simp)).trans (by rw [World.cell?_alloc_at _ _ _ _ rfl]; exact hv)
theorem box_below (w : World) (o : Obj) : ∀ w', Below (w.heap.size + 1) (w.alloc o) w' → Below w.heap.size w w' := fun w' hb =>
  ((Below.refl _ _).alloc (Nat.le_refl _) _).trans (hb.mono (by omega))
set_option maxHeartbeats 4000000 in
theorem insOk_any (i : Is) (w : World) : Calls Tryz.prog 88 #[i.v] w fun e w' => e = .returned (.bool i.ok) ∧ Below w.heap.size w w' := by
  obtain ⟨op, ⟨sm, sr, sx⟩, ⟨dm, dr, dx⟩, n⟩ := i
  have HZ := hide (show (w.alloc (Obj.cells #[.int .i64 op, .int .i64 sm, .int .i64 sr, .int .i64 sx, .int .i64 dm, .int .i64 dr, .int .i64 dx, .int .i64 n] 69)).heap.size = w.heap.size + 1 by simp)
  have HCL := hide (box_cells w #[.int .i64 op, .int .i64 sm, .int .i64 sr, .int .i64 sx, .int .i64 dm, .int .i64 dr, .int .i64 dx, .int .i64 n] 69)
  have HB := hide (box_below w (Obj.cells #[.int .i64 op, .int .i64 sm, .int .i64 sr, .int .i64 sx, .int .i64 dm, .int .i64 dr, .int .i64 dx, .int .i64 n] 69))
  unfold Is.v
  simp only
  cases hA : inB op 1 6
  · cases hB1 : inB op 7 14
    · cases hC : (op == 15)
      · cases hz1 : Od.zero ⟨sm, sr, sx⟩
        · have HR := hide (show false = Is.ok ⟨op, ⟨sm, sr, sx⟩, ⟨dm, dr, dx⟩, n⟩ by simp [Is.ok, *])
          go_enter Tryz.func88, Tryz.ntmps88
          go_wp2_with (go_at_call 31; refine (in_any _ _ _ _).mono ?_; rintro e w' ⟨rfl, hw'⟩; rw [hw']; clear hw' w')
          refine (zero_any ⟨sm, sr, sx⟩ _).mono ?_
          rintro e w1 ⟨rfl, hb1⟩
          rw [unhide HZ] at hb1
          have Bz1 := hb1
          have a0 := unhide HCL w1 Bz1 0 _ rfl
          have a1 := unhide HCL w1 Bz1 1 _ rfl
          have a2 := unhide HCL w1 Bz1 2 _ rfl
          have a3 := unhide HCL w1 Bz1 3 _ rfl
          have a4 := unhide HCL w1 Bz1 4 _ rfl
          have a5 := unhide HCL w1 Bz1 5 _ rfl
          have a6 := unhide HCL w1 Bz1 6 _ rfl
          have a7 := unhide HCL w1 Bz1 7 _ rfl
          rw [hz1]
          go_wp2_with (go_at_call 31; refine (in_any _ _ _ _).mono ?_; rintro e w' ⟨rfl, hw'⟩; rw [hw']; clear hw' w')
          go_ret
          exact ⟨by rw [← unhide HR]; rfl, unhide HB _ Bz1⟩
        · cases hz2 : Od.zero ⟨dm, dr, dx⟩
          · have HR := hide (show false = Is.ok ⟨op, ⟨sm, sr, sx⟩, ⟨dm, dr, dx⟩, n⟩ by simp [Is.ok, *])
            go_enter Tryz.func88, Tryz.ntmps88
            go_wp2_with (go_at_call 31; refine (in_any _ _ _ _).mono ?_; rintro e w' ⟨rfl, hw'⟩; rw [hw']; clear hw' w')
            refine (zero_any ⟨sm, sr, sx⟩ _).mono ?_
            rintro e w1 ⟨rfl, hb1⟩
            rw [unhide HZ] at hb1
            have Bz1 := hb1
            have a0 := unhide HCL w1 Bz1 0 _ rfl
            have a1 := unhide HCL w1 Bz1 1 _ rfl
            have a2 := unhide HCL w1 Bz1 2 _ rfl
            have a3 := unhide HCL w1 Bz1 3 _ rfl
            have a4 := unhide HCL w1 Bz1 4 _ rfl
            have a5 := unhide HCL w1 Bz1 5 _ rfl
            have a6 := unhide HCL w1 Bz1 6 _ rfl
            have a7 := unhide HCL w1 Bz1 7 _ rfl
            rw [hz1]
            clear hb1
            go_wp2_with (go_at_call 31; refine (in_any _ _ _ _).mono ?_; rintro e w' ⟨rfl, hw'⟩; rw [hw']; clear hw' w')
            refine (zero_any ⟨dm, dr, dx⟩ _).mono ?_
            rintro e w2 ⟨rfl, hb2⟩
            have Bz2 := Bz1.trans (hb2.mono (by have := Bz1.size; rw [unhide HZ] at this; exact this))
            have a0 := unhide HCL w2 Bz2 0 _ rfl
            have a1 := unhide HCL w2 Bz2 1 _ rfl
            have a2 := unhide HCL w2 Bz2 2 _ rfl
            have a3 := unhide HCL w2 Bz2 3 _ rfl
            have a4 := unhide HCL w2 Bz2 4 _ rfl
            have a5 := unhide HCL w2 Bz2 5 _ rfl
            have a6 := unhide HCL w2 Bz2 6 _ rfl
            have a7 := unhide HCL w2 Bz2 7 _ rfl
            rw [hz2]
            go_wp2_with (go_at_call 31; refine (in_any _ _ _ _).mono ?_; rintro e w' ⟨rfl, hw'⟩; rw [hw']; clear hw' w')
            go_ret
            exact ⟨by rw [← unhide HR]; rfl, unhide HB _ Bz2⟩
          · cases h16 : (op == 16)
            · cases h17 : inB op 17 21
              · cases h22 : (op == 22)
                · cases h23 : (op == 23)
                  · have HR := hide (show false = Is.ok ⟨op, ⟨sm, sr, sx⟩, ⟨dm, dr, dx⟩, n⟩ by simp [Is.ok, *])
                    go_enter Tryz.func88, Tryz.ntmps88
                    go_wp2_with (go_at_call 31; refine (in_any _ _ _ _).mono ?_; rintro e w' ⟨rfl, hw'⟩; rw [hw']; clear hw' w')
                    refine (zero_any ⟨sm, sr, sx⟩ _).mono ?_
                    rintro e w1 ⟨rfl, hb1⟩
                    rw [unhide HZ] at hb1
                    have Bz1 := hb1
                    have a0 := unhide HCL w1 Bz1 0 _ rfl
                    have a1 := unhide HCL w1 Bz1 1 _ rfl
                    have a2 := unhide HCL w1 Bz1 2 _ rfl
                    have a3 := unhide HCL w1 Bz1 3 _ rfl
                    have a4 := unhide HCL w1 Bz1 4 _ rfl
                    have a5 := unhide HCL w1 Bz1 5 _ rfl
                    have a6 := unhide HCL w1 Bz1 6 _ rfl
                    have a7 := unhide HCL w1 Bz1 7 _ rfl
                    rw [hz1]
                    clear hb1
                    go_wp2_with (go_at_call 31; refine (in_any _ _ _ _).mono ?_; rintro e w' ⟨rfl, hw'⟩; rw [hw']; clear hw' w')
                    refine (zero_any ⟨dm, dr, dx⟩ _).mono ?_
                    rintro e w2 ⟨rfl, hb2⟩
                    have Bz2 := Bz1.trans (hb2.mono (by have := Bz1.size; rw [unhide HZ] at this; exact this))
                    have a0 := unhide HCL w2 Bz2 0 _ rfl
                    have a1 := unhide HCL w2 Bz2 1 _ rfl
                    have a2 := unhide HCL w2 Bz2 2 _ rfl
                    have a3 := unhide HCL w2 Bz2 3 _ rfl
                    have a4 := unhide HCL w2 Bz2 4 _ rfl
                    have a5 := unhide HCL w2 Bz2 5 _ rfl
                    have a6 := unhide HCL w2 Bz2 6 _ rfl
                    have a7 := unhide HCL w2 Bz2 7 _ rfl
                    rw [hz2]
                    go_wp2_with (go_at_call 31; refine (in_any _ _ _ _).mono ?_; rintro e w' ⟨rfl, hw'⟩; rw [hw']; clear hw' w')
                    go_ret
                    exact ⟨by rw [← unhide HR]; rfl, unhide HB _ Bz2⟩
                  · have HR := hide (show inB n 0 255 = Is.ok ⟨op, ⟨sm, sr, sx⟩, ⟨dm, dr, dx⟩, n⟩ by simp [Is.ok, *])
                    go_enter Tryz.func88, Tryz.ntmps88
                    go_wp2_with (go_at_call 31; refine (in_any _ _ _ _).mono ?_; rintro e w' ⟨rfl, hw'⟩; rw [hw']; clear hw' w')
                    refine (zero_any ⟨sm, sr, sx⟩ _).mono ?_
                    rintro e w1 ⟨rfl, hb1⟩
                    rw [unhide HZ] at hb1
                    have Bz1 := hb1
                    have a0 := unhide HCL w1 Bz1 0 _ rfl
                    have a1 := unhide HCL w1 Bz1 1 _ rfl
                    have a2 := unhide HCL w1 Bz1 2 _ rfl
                    have a3 := unhide HCL w1 Bz1 3 _ rfl
                    have a4 := unhide HCL w1 Bz1 4 _ rfl
                    have a5 := unhide HCL w1 Bz1 5 _ rfl
                    have a6 := unhide HCL w1 Bz1 6 _ rfl
                    have a7 := unhide HCL w1 Bz1 7 _ rfl
                    rw [hz1]
                    clear hb1
                    go_wp2_with (go_at_call 31; refine (in_any _ _ _ _).mono ?_; rintro e w' ⟨rfl, hw'⟩; rw [hw']; clear hw' w')
                    refine (zero_any ⟨dm, dr, dx⟩ _).mono ?_
                    rintro e w2 ⟨rfl, hb2⟩
                    have Bz2 := Bz1.trans (hb2.mono (by have := Bz1.size; rw [unhide HZ] at this; exact this))
                    have a0 := unhide HCL w2 Bz2 0 _ rfl
                    have a1 := unhide HCL w2 Bz2 1 _ rfl
                    have a2 := unhide HCL w2 Bz2 2 _ rfl
                    have a3 := unhide HCL w2 Bz2 3 _ rfl
                    have a4 := unhide HCL w2 Bz2 4 _ rfl
                    have a5 := unhide HCL w2 Bz2 5 _ rfl
                    have a6 := unhide HCL w2 Bz2 6 _ rfl
                    have a7 := unhide HCL w2 Bz2 7 _ rfl
                    rw [hz2]
                    go_wp2_with (go_at_call 31; refine (in_any _ _ _ _).mono ?_; rintro e w' ⟨rfl, hw'⟩; rw [hw']; clear hw' w')
                    go_ret
                    exact ⟨by rw [← unhide HR]; rfl, unhide HB _ Bz2⟩
                · have HR := hide (show (n == 0) = Is.ok ⟨op, ⟨sm, sr, sx⟩, ⟨dm, dr, dx⟩, n⟩ by simp [Is.ok, *])
                  go_enter Tryz.func88, Tryz.ntmps88
                  go_wp2_with (go_at_call 31; refine (in_any _ _ _ _).mono ?_; rintro e w' ⟨rfl, hw'⟩; rw [hw']; clear hw' w')
                  refine (zero_any ⟨sm, sr, sx⟩ _).mono ?_
                  rintro e w1 ⟨rfl, hb1⟩
                  rw [unhide HZ] at hb1
                  have Bz1 := hb1
                  have a0 := unhide HCL w1 Bz1 0 _ rfl
                  have a1 := unhide HCL w1 Bz1 1 _ rfl
                  have a2 := unhide HCL w1 Bz1 2 _ rfl
                  have a3 := unhide HCL w1 Bz1 3 _ rfl
                  have a4 := unhide HCL w1 Bz1 4 _ rfl
                  have a5 := unhide HCL w1 Bz1 5 _ rfl
                  have a6 := unhide HCL w1 Bz1 6 _ rfl
                  have a7 := unhide HCL w1 Bz1 7 _ rfl
                  rw [hz1]
                  clear hb1
                  go_wp2_with (go_at_call 31; refine (in_any _ _ _ _).mono ?_; rintro e w' ⟨rfl, hw'⟩; rw [hw']; clear hw' w')
                  refine (zero_any ⟨dm, dr, dx⟩ _).mono ?_
                  rintro e w2 ⟨rfl, hb2⟩
                  have Bz2 := Bz1.trans (hb2.mono (by have := Bz1.size; rw [unhide HZ] at this; exact this))
                  have a0 := unhide HCL w2 Bz2 0 _ rfl
                  have a1 := unhide HCL w2 Bz2 1 _ rfl
                  have a2 := unhide HCL w2 Bz2 2 _ rfl
                  have a3 := unhide HCL w2 Bz2 3 _ rfl
                  have a4 := unhide HCL w2 Bz2 4 _ rfl
                  have a5 := unhide HCL w2 Bz2 5 _ rfl
                  have a6 := unhide HCL w2 Bz2 6 _ rfl
                  have a7 := unhide HCL w2 Bz2 7 _ rfl
                  rw [hz2]
                  go_wp2_with (go_at_call 31; refine (in_any _ _ _ _).mono ?_; rintro e w' ⟨rfl, hw'⟩; rw [hw']; clear hw' w')
                  go_ret
                  exact ⟨by rw [← unhide HR]; rfl, unhide HB _ Bz2⟩
              · have HR := hide (show inB n (-128) 127 = Is.ok ⟨op, ⟨sm, sr, sx⟩, ⟨dm, dr, dx⟩, n⟩ by simp [Is.ok, *])
                go_enter Tryz.func88, Tryz.ntmps88
                go_wp2_with (go_at_call 31; refine (in_any _ _ _ _).mono ?_; rintro e w' ⟨rfl, hw'⟩; rw [hw']; clear hw' w')
                refine (zero_any ⟨sm, sr, sx⟩ _).mono ?_
                rintro e w1 ⟨rfl, hb1⟩
                rw [unhide HZ] at hb1
                have Bz1 := hb1
                have a0 := unhide HCL w1 Bz1 0 _ rfl
                have a1 := unhide HCL w1 Bz1 1 _ rfl
                have a2 := unhide HCL w1 Bz1 2 _ rfl
                have a3 := unhide HCL w1 Bz1 3 _ rfl
                have a4 := unhide HCL w1 Bz1 4 _ rfl
                have a5 := unhide HCL w1 Bz1 5 _ rfl
                have a6 := unhide HCL w1 Bz1 6 _ rfl
                have a7 := unhide HCL w1 Bz1 7 _ rfl
                rw [hz1]
                clear hb1
                go_wp2_with (go_at_call 31; refine (in_any _ _ _ _).mono ?_; rintro e w' ⟨rfl, hw'⟩; rw [hw']; clear hw' w')
                refine (zero_any ⟨dm, dr, dx⟩ _).mono ?_
                rintro e w2 ⟨rfl, hb2⟩
                have Bz2 := Bz1.trans (hb2.mono (by have := Bz1.size; rw [unhide HZ] at this; exact this))
                have a0 := unhide HCL w2 Bz2 0 _ rfl
                have a1 := unhide HCL w2 Bz2 1 _ rfl
                have a2 := unhide HCL w2 Bz2 2 _ rfl
                have a3 := unhide HCL w2 Bz2 3 _ rfl
                have a4 := unhide HCL w2 Bz2 4 _ rfl
                have a5 := unhide HCL w2 Bz2 5 _ rfl
                have a6 := unhide HCL w2 Bz2 6 _ rfl
                have a7 := unhide HCL w2 Bz2 7 _ rfl
                rw [hz2]
                go_wp2_with (go_at_call 31; refine (in_any _ _ _ _).mono ?_; rintro e w' ⟨rfl, hw'⟩; rw [hw']; clear hw' w')
                go_ret
                exact ⟨by rw [← unhide HR]; rfl, unhide HB _ Bz2⟩
            · have HR := hide (show inB n 0 7 = Is.ok ⟨op, ⟨sm, sr, sx⟩, ⟨dm, dr, dx⟩, n⟩ by simp [Is.ok, *])
              go_enter Tryz.func88, Tryz.ntmps88
              go_wp2_with (go_at_call 31; refine (in_any _ _ _ _).mono ?_; rintro e w' ⟨rfl, hw'⟩; rw [hw']; clear hw' w')
              refine (zero_any ⟨sm, sr, sx⟩ _).mono ?_
              rintro e w1 ⟨rfl, hb1⟩
              rw [unhide HZ] at hb1
              have Bz1 := hb1
              have a0 := unhide HCL w1 Bz1 0 _ rfl
              have a1 := unhide HCL w1 Bz1 1 _ rfl
              have a2 := unhide HCL w1 Bz1 2 _ rfl
              have a3 := unhide HCL w1 Bz1 3 _ rfl
              have a4 := unhide HCL w1 Bz1 4 _ rfl
              have a5 := unhide HCL w1 Bz1 5 _ rfl
              have a6 := unhide HCL w1 Bz1 6 _ rfl
              have a7 := unhide HCL w1 Bz1 7 _ rfl
              rw [hz1]
              clear hb1
              go_wp2_with (go_at_call 31; refine (in_any _ _ _ _).mono ?_; rintro e w' ⟨rfl, hw'⟩; rw [hw']; clear hw' w')
              refine (zero_any ⟨dm, dr, dx⟩ _).mono ?_
              rintro e w2 ⟨rfl, hb2⟩
              have Bz2 := Bz1.trans (hb2.mono (by have := Bz1.size; rw [unhide HZ] at this; exact this))
              have a0 := unhide HCL w2 Bz2 0 _ rfl
              have a1 := unhide HCL w2 Bz2 1 _ rfl
              have a2 := unhide HCL w2 Bz2 2 _ rfl
              have a3 := unhide HCL w2 Bz2 3 _ rfl
              have a4 := unhide HCL w2 Bz2 4 _ rfl
              have a5 := unhide HCL w2 Bz2 5 _ rfl
              have a6 := unhide HCL w2 Bz2 6 _ rfl
              have a7 := unhide HCL w2 Bz2 7 _ rfl
              rw [hz2]
              go_wp2_with (go_at_call 31; refine (in_any _ _ _ _).mono ?_; rintro e w' ⟨rfl, hw'⟩; rw [hw']; clear hw' w')
              go_ret
              exact ⟨by rw [← unhide HR]; rfl, unhide HB _ Bz2⟩
      · cases hs : Od.zero ⟨sm, sr, sx⟩
        · have HR := hide (show false = Is.ok ⟨op, ⟨sm, sr, sx⟩, ⟨dm, dr, dx⟩, n⟩ by simp [Is.ok, *])
          go_enter Tryz.func88, Tryz.ntmps88
          go_wp2_with (go_at_call 31; refine (in_any _ _ _ _).mono ?_; rintro e w' ⟨rfl, hw'⟩; rw [hw']; clear hw' w')
          refine (zero_any ⟨sm, sr, sx⟩ _).mono ?_
          rintro e w1 ⟨rfl, hb1⟩
          rw [unhide HZ] at hb1
          have Bz1 := hb1
          have a0 := unhide HCL w1 Bz1 0 _ rfl
          have a1 := unhide HCL w1 Bz1 1 _ rfl
          have a2 := unhide HCL w1 Bz1 2 _ rfl
          have a3 := unhide HCL w1 Bz1 3 _ rfl
          have a4 := unhide HCL w1 Bz1 4 _ rfl
          have a5 := unhide HCL w1 Bz1 5 _ rfl
          have a6 := unhide HCL w1 Bz1 6 _ rfl
          have a7 := unhide HCL w1 Bz1 7 _ rfl
          rw [hs]
          go_wp2_with (go_at_call 31; refine (in_any _ _ _ _).mono ?_; rintro e w' ⟨rfl, hw'⟩; rw [hw']; clear hw' w')
          go_ret
          exact ⟨by rw [← unhide HR]; rfl, unhide HB _ Bz1⟩
        · cases hd : Od.ok ⟨dm, dr, dx⟩
          · have HR := hide (show false = Is.ok ⟨op, ⟨sm, sr, sx⟩, ⟨dm, dr, dx⟩, n⟩ by simp [Is.ok, *])
            go_enter Tryz.func88, Tryz.ntmps88
            go_wp2_with (go_at_call 31; refine (in_any _ _ _ _).mono ?_; rintro e w' ⟨rfl, hw'⟩; rw [hw']; clear hw' w')
            refine (zero_any ⟨sm, sr, sx⟩ _).mono ?_
            rintro e w1 ⟨rfl, hb1⟩
            rw [unhide HZ] at hb1
            have Bz1 := hb1
            have a0 := unhide HCL w1 Bz1 0 _ rfl
            have a1 := unhide HCL w1 Bz1 1 _ rfl
            have a2 := unhide HCL w1 Bz1 2 _ rfl
            have a3 := unhide HCL w1 Bz1 3 _ rfl
            have a4 := unhide HCL w1 Bz1 4 _ rfl
            have a5 := unhide HCL w1 Bz1 5 _ rfl
            have a6 := unhide HCL w1 Bz1 6 _ rfl
            have a7 := unhide HCL w1 Bz1 7 _ rfl
            rw [hs]
            clear hb1
            go_wp2_with (go_at_call 31; refine (in_any _ _ _ _).mono ?_; rintro e w' ⟨rfl, hw'⟩; rw [hw']; clear hw' w')
            refine (opdOk_any ⟨dm, dr, dx⟩ _).mono ?_
            rintro e w2 ⟨rfl, hb2⟩
            have Bz2 := Bz1.trans (hb2.mono (by have := Bz1.size; rw [unhide HZ] at this; exact this))
            have a0 := unhide HCL w2 Bz2 0 _ rfl
            have a1 := unhide HCL w2 Bz2 1 _ rfl
            have a2 := unhide HCL w2 Bz2 2 _ rfl
            have a3 := unhide HCL w2 Bz2 3 _ rfl
            have a4 := unhide HCL w2 Bz2 4 _ rfl
            have a5 := unhide HCL w2 Bz2 5 _ rfl
            have a6 := unhide HCL w2 Bz2 6 _ rfl
            have a7 := unhide HCL w2 Bz2 7 _ rfl
            rw [hd]
            go_wp2_with (go_at_call 31; refine (in_any _ _ _ _).mono ?_; rintro e w' ⟨rfl, hw'⟩; rw [hw']; clear hw' w')
            go_ret
            exact ⟨by rw [← unhide HR]; rfl, unhide HB _ Bz2⟩
          · have HR := hide (show inB n 0 7 = Is.ok ⟨op, ⟨sm, sr, sx⟩, ⟨dm, dr, dx⟩, n⟩ by simp [Is.ok, *])
            go_enter Tryz.func88, Tryz.ntmps88
            go_wp2_with (go_at_call 31; refine (in_any _ _ _ _).mono ?_; rintro e w' ⟨rfl, hw'⟩; rw [hw']; clear hw' w')
            refine (zero_any ⟨sm, sr, sx⟩ _).mono ?_
            rintro e w1 ⟨rfl, hb1⟩
            rw [unhide HZ] at hb1
            have Bz1 := hb1
            have a0 := unhide HCL w1 Bz1 0 _ rfl
            have a1 := unhide HCL w1 Bz1 1 _ rfl
            have a2 := unhide HCL w1 Bz1 2 _ rfl
            have a3 := unhide HCL w1 Bz1 3 _ rfl
            have a4 := unhide HCL w1 Bz1 4 _ rfl
            have a5 := unhide HCL w1 Bz1 5 _ rfl
            have a6 := unhide HCL w1 Bz1 6 _ rfl
            have a7 := unhide HCL w1 Bz1 7 _ rfl
            rw [hs]
            clear hb1
            go_wp2_with (go_at_call 31; refine (in_any _ _ _ _).mono ?_; rintro e w' ⟨rfl, hw'⟩; rw [hw']; clear hw' w')
            refine (opdOk_any ⟨dm, dr, dx⟩ _).mono ?_
            rintro e w2 ⟨rfl, hb2⟩
            have Bz2 := Bz1.trans (hb2.mono (by have := Bz1.size; rw [unhide HZ] at this; exact this))
            have a0 := unhide HCL w2 Bz2 0 _ rfl
            have a1 := unhide HCL w2 Bz2 1 _ rfl
            have a2 := unhide HCL w2 Bz2 2 _ rfl
            have a3 := unhide HCL w2 Bz2 3 _ rfl
            have a4 := unhide HCL w2 Bz2 4 _ rfl
            have a5 := unhide HCL w2 Bz2 5 _ rfl
            have a6 := unhide HCL w2 Bz2 6 _ rfl
            have a7 := unhide HCL w2 Bz2 7 _ rfl
            rw [hd]
            go_wp2_with (go_at_call 31; refine (in_any _ _ _ _).mono ?_; rintro e w' ⟨rfl, hw'⟩; rw [hw']; clear hw' w')
            go_ret
            exact ⟨by rw [← unhide HR]; rfl, unhide HB _ Bz2⟩
    · cases hs : Od.zero ⟨sm, sr, sx⟩
      · have HR := hide (show false = Is.ok ⟨op, ⟨sm, sr, sx⟩, ⟨dm, dr, dx⟩, n⟩ by simp [Is.ok, *])
        go_enter Tryz.func88, Tryz.ntmps88
        go_wp2_with (go_at_call 31; refine (in_any _ _ _ _).mono ?_; rintro e w' ⟨rfl, hw'⟩; rw [hw']; clear hw' w')
        refine (zero_any ⟨sm, sr, sx⟩ _).mono ?_
        rintro e w1 ⟨rfl, hb1⟩
        rw [unhide HZ] at hb1
        have Bz1 := hb1
        have a0 := unhide HCL w1 Bz1 0 _ rfl
        have a1 := unhide HCL w1 Bz1 1 _ rfl
        have a2 := unhide HCL w1 Bz1 2 _ rfl
        have a3 := unhide HCL w1 Bz1 3 _ rfl
        have a4 := unhide HCL w1 Bz1 4 _ rfl
        have a5 := unhide HCL w1 Bz1 5 _ rfl
        have a6 := unhide HCL w1 Bz1 6 _ rfl
        have a7 := unhide HCL w1 Bz1 7 _ rfl
        rw [hs]
        go_wp2_with (go_at_call 31; refine (in_any _ _ _ _).mono ?_; rintro e w' ⟨rfl, hw'⟩; rw [hw']; clear hw' w')
        go_ret
        exact ⟨by rw [← unhide HR]; rfl, unhide HB _ Bz1⟩
      · cases hd : Od.ok ⟨dm, dr, dx⟩
        · have HR := hide (show false = Is.ok ⟨op, ⟨sm, sr, sx⟩, ⟨dm, dr, dx⟩, n⟩ by simp [Is.ok, *])
          go_enter Tryz.func88, Tryz.ntmps88
          go_wp2_with (go_at_call 31; refine (in_any _ _ _ _).mono ?_; rintro e w' ⟨rfl, hw'⟩; rw [hw']; clear hw' w')
          refine (zero_any ⟨sm, sr, sx⟩ _).mono ?_
          rintro e w1 ⟨rfl, hb1⟩
          rw [unhide HZ] at hb1
          have Bz1 := hb1
          have a0 := unhide HCL w1 Bz1 0 _ rfl
          have a1 := unhide HCL w1 Bz1 1 _ rfl
          have a2 := unhide HCL w1 Bz1 2 _ rfl
          have a3 := unhide HCL w1 Bz1 3 _ rfl
          have a4 := unhide HCL w1 Bz1 4 _ rfl
          have a5 := unhide HCL w1 Bz1 5 _ rfl
          have a6 := unhide HCL w1 Bz1 6 _ rfl
          have a7 := unhide HCL w1 Bz1 7 _ rfl
          rw [hs]
          clear hb1
          go_wp2_with (go_at_call 31; refine (in_any _ _ _ _).mono ?_; rintro e w' ⟨rfl, hw'⟩; rw [hw']; clear hw' w')
          refine (opdOk_any ⟨dm, dr, dx⟩ _).mono ?_
          rintro e w2 ⟨rfl, hb2⟩
          have Bz2 := Bz1.trans (hb2.mono (by have := Bz1.size; rw [unhide HZ] at this; exact this))
          have a0 := unhide HCL w2 Bz2 0 _ rfl
          have a1 := unhide HCL w2 Bz2 1 _ rfl
          have a2 := unhide HCL w2 Bz2 2 _ rfl
          have a3 := unhide HCL w2 Bz2 3 _ rfl
          have a4 := unhide HCL w2 Bz2 4 _ rfl
          have a5 := unhide HCL w2 Bz2 5 _ rfl
          have a6 := unhide HCL w2 Bz2 6 _ rfl
          have a7 := unhide HCL w2 Bz2 7 _ rfl
          rw [hd]
          go_wp2_with (go_at_call 31; refine (in_any _ _ _ _).mono ?_; rintro e w' ⟨rfl, hw'⟩; rw [hw']; clear hw' w')
          go_ret
          exact ⟨by rw [← unhide HR]; rfl, unhide HB _ Bz2⟩
        · have HR := hide (show (n == 0) = Is.ok ⟨op, ⟨sm, sr, sx⟩, ⟨dm, dr, dx⟩, n⟩ by simp [Is.ok, *])
          go_enter Tryz.func88, Tryz.ntmps88
          go_wp2_with (go_at_call 31; refine (in_any _ _ _ _).mono ?_; rintro e w' ⟨rfl, hw'⟩; rw [hw']; clear hw' w')
          refine (zero_any ⟨sm, sr, sx⟩ _).mono ?_
          rintro e w1 ⟨rfl, hb1⟩
          rw [unhide HZ] at hb1
          have Bz1 := hb1
          have a0 := unhide HCL w1 Bz1 0 _ rfl
          have a1 := unhide HCL w1 Bz1 1 _ rfl
          have a2 := unhide HCL w1 Bz1 2 _ rfl
          have a3 := unhide HCL w1 Bz1 3 _ rfl
          have a4 := unhide HCL w1 Bz1 4 _ rfl
          have a5 := unhide HCL w1 Bz1 5 _ rfl
          have a6 := unhide HCL w1 Bz1 6 _ rfl
          have a7 := unhide HCL w1 Bz1 7 _ rfl
          rw [hs]
          clear hb1
          go_wp2_with (go_at_call 31; refine (in_any _ _ _ _).mono ?_; rintro e w' ⟨rfl, hw'⟩; rw [hw']; clear hw' w')
          refine (opdOk_any ⟨dm, dr, dx⟩ _).mono ?_
          rintro e w2 ⟨rfl, hb2⟩
          have Bz2 := Bz1.trans (hb2.mono (by have := Bz1.size; rw [unhide HZ] at this; exact this))
          have a0 := unhide HCL w2 Bz2 0 _ rfl
          have a1 := unhide HCL w2 Bz2 1 _ rfl
          have a2 := unhide HCL w2 Bz2 2 _ rfl
          have a3 := unhide HCL w2 Bz2 3 _ rfl
          have a4 := unhide HCL w2 Bz2 4 _ rfl
          have a5 := unhide HCL w2 Bz2 5 _ rfl
          have a6 := unhide HCL w2 Bz2 6 _ rfl
          have a7 := unhide HCL w2 Bz2 7 _ rfl
          rw [hd]
          go_wp2_with (go_at_call 31; refine (in_any _ _ _ _).mono ?_; rintro e w' ⟨rfl, hw'⟩; rw [hw']; clear hw' w')
          go_ret
          exact ⟨by rw [← unhide HR]; rfl, unhide HB _ Bz2⟩
  · cases hs : Od.ok ⟨sm, sr, sx⟩
    · have HR := hide (show false = Is.ok ⟨op, ⟨sm, sr, sx⟩, ⟨dm, dr, dx⟩, n⟩ by simp [Is.ok, *])
      go_enter Tryz.func88, Tryz.ntmps88
      go_wp2_with (go_at_call 31; refine (in_any _ _ _ _).mono ?_; rintro e w' ⟨rfl, hw'⟩; rw [hw']; clear hw' w')
      refine (opdOk_any ⟨sm, sr, sx⟩ _).mono ?_
      rintro e w1 ⟨rfl, hb1⟩
      rw [unhide HZ] at hb1
      have Bz1 := hb1
      have a0 := unhide HCL w1 Bz1 0 _ rfl
      have a1 := unhide HCL w1 Bz1 1 _ rfl
      have a2 := unhide HCL w1 Bz1 2 _ rfl
      have a3 := unhide HCL w1 Bz1 3 _ rfl
      have a4 := unhide HCL w1 Bz1 4 _ rfl
      have a5 := unhide HCL w1 Bz1 5 _ rfl
      have a6 := unhide HCL w1 Bz1 6 _ rfl
      have a7 := unhide HCL w1 Bz1 7 _ rfl
      rw [hs]
      go_wp2_with (go_at_call 31; refine (in_any _ _ _ _).mono ?_; rintro e w' ⟨rfl, hw'⟩; rw [hw']; clear hw' w')
      go_ret
      exact ⟨by rw [← unhide HR]; rfl, unhide HB _ Bz1⟩
    · cases hd : Od.ok ⟨dm, dr, dx⟩
      · have HR := hide (show false = Is.ok ⟨op, ⟨sm, sr, sx⟩, ⟨dm, dr, dx⟩, n⟩ by simp [Is.ok, *])
        go_enter Tryz.func88, Tryz.ntmps88
        go_wp2_with (go_at_call 31; refine (in_any _ _ _ _).mono ?_; rintro e w' ⟨rfl, hw'⟩; rw [hw']; clear hw' w')
        refine (opdOk_any ⟨sm, sr, sx⟩ _).mono ?_
        rintro e w1 ⟨rfl, hb1⟩
        rw [unhide HZ] at hb1
        have Bz1 := hb1
        have a0 := unhide HCL w1 Bz1 0 _ rfl
        have a1 := unhide HCL w1 Bz1 1 _ rfl
        have a2 := unhide HCL w1 Bz1 2 _ rfl
        have a3 := unhide HCL w1 Bz1 3 _ rfl
        have a4 := unhide HCL w1 Bz1 4 _ rfl
        have a5 := unhide HCL w1 Bz1 5 _ rfl
        have a6 := unhide HCL w1 Bz1 6 _ rfl
        have a7 := unhide HCL w1 Bz1 7 _ rfl
        rw [hs]
        clear hb1
        go_wp2_with (go_at_call 31; refine (in_any _ _ _ _).mono ?_; rintro e w' ⟨rfl, hw'⟩; rw [hw']; clear hw' w')
        refine (opdOk_any ⟨dm, dr, dx⟩ _).mono ?_
        rintro e w2 ⟨rfl, hb2⟩
        have Bz2 := Bz1.trans (hb2.mono (by have := Bz1.size; rw [unhide HZ] at this; exact this))
        have a0 := unhide HCL w2 Bz2 0 _ rfl
        have a1 := unhide HCL w2 Bz2 1 _ rfl
        have a2 := unhide HCL w2 Bz2 2 _ rfl
        have a3 := unhide HCL w2 Bz2 3 _ rfl
        have a4 := unhide HCL w2 Bz2 4 _ rfl
        have a5 := unhide HCL w2 Bz2 5 _ rfl
        have a6 := unhide HCL w2 Bz2 6 _ rfl
        have a7 := unhide HCL w2 Bz2 7 _ rfl
        rw [hd]
        go_wp2_with (go_at_call 31; refine (in_any _ _ _ _).mono ?_; rintro e w' ⟨rfl, hw'⟩; rw [hw']; clear hw' w')
        go_ret
        exact ⟨by rw [← unhide HR]; rfl, unhide HB _ Bz2⟩
      · have HR := hide (show (n == 0) = Is.ok ⟨op, ⟨sm, sr, sx⟩, ⟨dm, dr, dx⟩, n⟩ by simp [Is.ok, *])
        go_enter Tryz.func88, Tryz.ntmps88
        go_wp2_with (go_at_call 31; refine (in_any _ _ _ _).mono ?_; rintro e w' ⟨rfl, hw'⟩; rw [hw']; clear hw' w')
        refine (opdOk_any ⟨sm, sr, sx⟩ _).mono ?_
        rintro e w1 ⟨rfl, hb1⟩
        rw [unhide HZ] at hb1
        have Bz1 := hb1
        have a0 := unhide HCL w1 Bz1 0 _ rfl
        have a1 := unhide HCL w1 Bz1 1 _ rfl
        have a2 := unhide HCL w1 Bz1 2 _ rfl
        have a3 := unhide HCL w1 Bz1 3 _ rfl
        have a4 := unhide HCL w1 Bz1 4 _ rfl
        have a5 := unhide HCL w1 Bz1 5 _ rfl
        have a6 := unhide HCL w1 Bz1 6 _ rfl
        have a7 := unhide HCL w1 Bz1 7 _ rfl
        rw [hs]
        clear hb1
        go_wp2_with (go_at_call 31; refine (in_any _ _ _ _).mono ?_; rintro e w' ⟨rfl, hw'⟩; rw [hw']; clear hw' w')
        refine (opdOk_any ⟨dm, dr, dx⟩ _).mono ?_
        rintro e w2 ⟨rfl, hb2⟩
        have Bz2 := Bz1.trans (hb2.mono (by have := Bz1.size; rw [unhide HZ] at this; exact this))
        have a0 := unhide HCL w2 Bz2 0 _ rfl
        have a1 := unhide HCL w2 Bz2 1 _ rfl
        have a2 := unhide HCL w2 Bz2 2 _ rfl
        have a3 := unhide HCL w2 Bz2 3 _ rfl
        have a4 := unhide HCL w2 Bz2 4 _ rfl
        have a5 := unhide HCL w2 Bz2 5 _ rfl
        have a6 := unhide HCL w2 Bz2 6 _ rfl
        have a7 := unhide HCL w2 Bz2 7 _ rfl
        rw [hd]
        go_wp2_with (go_at_call 31; refine (in_any _ _ _ _).mono ?_; rintro e w' ⟨rfl, hw'⟩; rw [hw']; clear hw' w')
        go_ret
        exact ⟨by rw [← unhide HR]; rfl, unhide HB _ Bz2⟩
end Go.Proofs.YtjpbjbnialehbaaGreatDoor

namespace Go.Proofs.YtjpbjbnialehbaaGreatDoor
open Go.ChangeShapes Go.WideShapes Go.ChangeAt Go.RowKit
set_option linter.unusedVariables false
set_option maxRecDepth 8000
def c8 (l : List Int) (j : Nat) : Value := .int .i64 (l.getD j 0)
def cs8 (l : List Int) : Array Value := #[c8 l 0, c8 l 1, c8 l 2, c8 l 3, c8 l 4, c8 l 5, c8 l 6, c8 l 7]
theorem row8 (w : World) (l : List Int) (t : TypeId) : (w.alloc (Obj.cells (cs8 l) t)).rowIs w.heap.size t 8 (c8 l) :=
  ⟨_, Array.getElem?_push_size, rfl, fun i hi => by
    obtain rfl | rfl | rfl | rfl | rfl | rfl | rfl | rfl : i = 0 ∨ i = 1 ∨ i = 2 ∨ i = 3 ∨ i = 4 ∨ i = 5 ∨ i = 6 ∨ i = 7 := by omega
    all_goals rfl⟩
theorem row8_heap {w : World} {b t : Nat} {l : List Int} (h : w.rowIs b t 8 (c8 l)) : w.heap[b]? = some (.cells (cs8 l) t (0, 0)) := by
  obtain ⟨c, hc, hs, hv⟩ := h
  rw [hc]
  congr 2
  apply Array.ext'
  apply List.ext_getElem?
  intro i
  by_cases hi : i < 8
  · rw [Array.getElem?_toList, hv i hi]
    obtain rfl | rfl | rfl | rfl | rfl | rfl | rfl | rfl : i = 0 ∨ i = 1 ∨ i = 2 ∨ i = 3 ∨ i = 4 ∨ i = 5 ∨ i = 6 ∨ i = 7 := by omega
    all_goals rfl
  · rw [List.getElem?_eq_none (by simp; omega), List.getElem?_eq_none (by simp [cs8]; omega)]
/-- A store into the row. -/
theorem row8_set {w : World} {b t : Nat} {l l' : List Int} (h : w.rowIs b t 8 (c8 l)) (k : Nat) (x : Int) (he : ∀ j, j < 8 → (if j = k then Value.int .i64 x else c8 l j) = c8 l' j) : (w.setCell ⟨b, k, none⟩ (.int .i64 x)).rowIs b t 8 (c8 l') := (h.set k _).congr he
/-- What stands while an instruction is copied: the box, the answer's block, the copy. -/
structure Cp (w wr : World) (tb ti : TypeId) (l r o : List Int) : Prop where
  bel : Below w.heap.size w wr
  box : wr.rowIs w.heap.size tb 8 (c8 l)
  res : wr.rowIs (w.heap.size + 1) ti 8 (c8 r)
  out : wr.rowIs (w.heap.size + 2) ti 8 (c8 o)
section
variable {w wr w' : World} {tb ti : TypeId} {l r o : List Int}
theorem Cp.later (h : Cp w wr tb ti l r o) (hb : Below wr.heap.size wr w') : Cp w w' tb ti l r o :=
  ⟨h.bel.trans (hb.mono h.bel.size), h.box.of_block (hb.block _ h.box.lt), h.res.of_block (hb.block _ h.res.lt), h.out.of_block (hb.block _ h.out.lt)⟩
theorem Cp.set (h : Cp w wr tb ti l r o) (k : Nat) (x : Int) (o' : List Int) (he : ∀ j, j < 8 → (if j = k then Value.int .i64 x else c8 o j) = c8 o' j) : Cp w (wr.setCell ⟨w.heap.size + 2, k, none⟩ (.int .i64 x)) tb ti l r o' :=
  ⟨h.bel.setCell (by show w.heap.size ≤ w.heap.size + 2; omega) _, h.box.of_block (Below.heap_setCell _ _ _ _ (by show w.heap.size ≠ w.heap.size + 2; omega)), h.res.of_block (Below.heap_setCell _ _ _ _ (by show w.heap.size + 1 ≠ w.heap.size + 2; omega)), row8_set h.out k x he⟩
theorem Cp.setR (h : Cp w wr tb ti l r o) (k : Nat) (x : Int) (r' : List Int) (he : ∀ j, j < 8 → (if j = k then Value.int .i64 x else c8 r j) = c8 r' j) : Cp w (wr.setCell ⟨w.heap.size + 1, k, none⟩ (.int .i64 x)) tb ti l r' o :=
  ⟨h.bel.setCell (by show w.heap.size ≤ w.heap.size + 1; omega) _, h.box.of_block (Below.heap_setCell _ _ _ _ (by show w.heap.size ≠ w.heap.size + 1; omega)), row8_set h.res k x he, h.out.of_block (Below.heap_setCell _ _ _ _ (by show w.heap.size + 2 ≠ w.heap.size + 1; omega))⟩
end
end Go.Proofs.YtjpbjbnialehbaaGreatDoor

namespace Go.Proofs.YtjpbjbnialehbaaGreatDoor
open Go.ChangeShapes Go.WideShapes Go.ChangeAt Go.RowKit
set_option linter.unusedVariables false
set_option maxRecDepth 8000
theorem info3 : (Tryz.prog.info? 3).map (fun i => (i.zero, i.size, i.bytes)) = some (some (.int .i64 0), 1, 8) := by kernel_rfl
/-- The i-th byte as a number. -/
def bAt (xs : List UInt8) (i : Nat) : Int := ((xs.getD i 0).toNat : Int)
def nAt (ns : List Int) (i : Nat) : Int := ns.getD i 0
theorem take_nAt (ns : List Int) (k : Nat) (h : k < ns.length) : ns.take (k + 1) = ns.take k ++ [nAt ns k] := by
  rw [List.take_succ_eq_append_getElem h]; simp [nAt, List.getElem?_eq_getElem h]
/-- A slice of ints with address a reads as ns. -/
def RdN (w : World) (a : Option Addr) (ns : List Int) : Prop :=
  ns = [] ∨ ∃ b off, a = some ⟨b, off, none⟩ ∧ b < w.heap.size ∧ ∀ i, i < ns.length → w.cell? ⟨b, off + i, none⟩ = some (.int .i64 (nAt ns i))
theorem RdN.later {w w' : World} {a : Option Addr} {xs : List Int} (h : RdN w a xs) (hb : Below w.heap.size w w') : RdN w' a xs := by
  rcases h with h | ⟨b, off, ha, hlt, hc⟩
  · exact .inl h
  · exact .inr ⟨b, off, ha, Nat.lt_of_lt_of_le hlt hb.size, fun i hi => (hb.cell (p := ⟨b, off + i, none⟩) hlt).trans (hc i hi)⟩
def cellsN (ns : List Int) : List Value := ns.map fun n => .int .i64 n
theorem cellsN_length (ys : List Int) : (cellsN ys).length = ys.length := by simp [cellsN]
theorem cellsN_append (a b : List Int) : cellsN (a ++ b) = cellsN a ++ cellsN b := by simp [cellsN]
theorem cellsN_one (ys : List Int) : ∀ u ∈ cellsN ys, u.oneCell' = true := by
  intro u hu
  simp only [cellsN, List.mem_map] at hu
  obtain ⟨y, _, rfl⟩ := hu
  rfl
/-- v is a slice of the call's own (blocks from B on) that holds the ints ns. -/
def OwnN (w : World) (B : Nat) (v : Value) (ns : List Int) : Prop := w.ownsRow B 3 1 v ns.length (cellsN ns)
theorem ownN_none (w : World) (B : Nat) : OwnN w B (.slice none 0 0) [] := ⟨rfl, .inl ⟨rfl, rfl⟩⟩
theorem ownN_empty (w : World) : OwnN (w.alloc (Obj.cells #[] 3)) w.heap.size (.slice (some ⟨w.heap.size, 0, none⟩) 0 0) [] :=
  World.ownsRow_lit w #[] 0 (Nat.le_refl _) (by decide) rfl
theorem OwnN.rd {w : World} {B : Nat} {v : Value} {ys : List Int} (h : OwnN w B v ys) : ∃ a cap, v = .slice a ys.length cap ∧ ys.length ≤ cap ∧ cap ≤ maxLen ∧ RdN w a ys ∧ (∀ ad, a = some ad → B ≤ ad.block) ∧ (a = none → cap = 0) := by
  obtain ⟨_, ⟨rfl, h0⟩ | ⟨g, cap, cur, rfl, hg, hh, hn, hm, hs, ht⟩⟩ := id h
  · obtain rfl : ys = [] := List.eq_nil_of_length_eq_zero h0
    exact ⟨none, 0, rfl, Nat.le_refl _, Nat.zero_le _, .inl rfl, (fun _ h => by cases h), fun _ => rfl⟩
  · refine ⟨_, cap, rfl, hn, hm, .inr ⟨g, 0, rfl, (Array.getElem?_eq_some_iff.1 hh).1, fun i hi => ?_⟩, (fun ad h => by cases h; exact hg), fun h => by cases h⟩
    have h2 := World.ownsRow.cellAt h i (by omega)
    rw [Nat.zero_add, h2]
    simp only [cellsN, List.getElem?_map, List.getElem?_eq_getElem hi, Option.map_some]
    unfold nAt
    rw [List.getD_eq_getElem?_getD, List.getElem?_eq_getElem hi]
    rfl
theorem OwnN.rd1 {w : World} {B : Nat} {a : Option Addr} {n cap : Nat} {ys : List Int} (h : OwnN w B (.slice a n cap) ys) : RdN w a ys := by
  obtain ⟨a', cap', e, _, _, hr, _⟩ := h.rd
  cases e
  exact hr
theorem OwnN.keep {w w' : World} {B : Nat} {v : Value} {ys : List Int} (h : OwnN w B v ys) (hs : ∀ g, v.ownBlock = some g → g < w.heap.size → w'.heap[g]? = w.heap[g]?) : OwnN w' B v ys := by
  obtain ⟨h1, h2 | ⟨g, cap, cur, rfl, hg, hh, r⟩⟩ := h
  · exact ⟨h1, .inl h2⟩
  · exact ⟨h1, .inr ⟨g, cap, cur, rfl, hg, (hs g rfl (Array.getElem?_eq_some_iff.1 hh).1).trans hh, r⟩⟩
theorem OwnN.later {w w' : World} {B : Nat} {v : Value} {ys : List Int} (h : OwnN w B v ys) (hb : Below w.heap.size w w') : OwnN w' B v ys := h.keep fun g _ hg => hb.block g hg
theorem OwnN.past {w w' : World} {B : Nat} {v : Value} {ys : List Int} {b : Nat} (h : OwnN w B v ys) (hb : w.grownBy w' (some b)) (hne : v.ownBlock ≠ some b) : OwnN w' B v ys :=
  h.keep fun g hv hg => hb.block g hg (by rw [← hv]; exact hne)
theorem OwnN.lt {w : World} {B : Nat} {v : Value} {ys : List Int} (h : OwnN w B v ys) {g : Nat} (hg : v.ownBlock = some g) : B ≤ g ∧ g < w.heap.size := World.ownsRow.lt h g hg
theorem OwnN.base {w : World} {B B' : Nat} {v : Value} {ys : List Int} (h : OwnN w B v ys) (hB : B' ≤ B) : OwnN w B' v ys := by
  obtain ⟨h1, h2 | ⟨g, cap, cur, e, hg, r⟩⟩ := h
  · exact ⟨h1, .inl h2⟩
  · exact ⟨h1, .inr ⟨g, cap, cur, e, Nat.le_trans hB hg, r⟩⟩
/-- An owned slice, written out: none, or in a block of its own. -/
theorem OwnN.form {w : World} {B : Nat} {v : Value} {ys : List Int} (h : OwnN w B v ys) : (v = .slice none 0 0 ∧ ys = []) ∨ ∃ g cap, v = .slice (some ⟨g, 0, none⟩) ys.length cap ∧ B ≤ g ∧ g < w.heap.size ∧ ys.length ≤ cap ∧ cap ≤ maxLen := by
  obtain ⟨_, ⟨h1, h2⟩ | ⟨g, cap, cur, rfl, hg, hh, hn, hm, r⟩⟩ := h
  · exact .inl ⟨h1, List.eq_nil_of_length_eq_zero h2⟩
  · exact .inr ⟨g, cap, rfl, hg, (Array.getElem?_eq_some_iff.1 hh).1, hn, hm⟩
theorem grownBy_trans {a b c : World} {r : Option Nat} (h : a.grownBy b r) (k : b.grownBy c r) : a.grownBy c r :=
  ⟨k.os.trans h.os, k.tape.trans h.tape, k.output.trans h.output, Nat.le_trans h.size k.size, fun j hj hn => (k.block j (Nat.lt_of_lt_of_le hj h.size) hn).trans (h.block j hj hn)⟩
theorem below_drewN {B : Nat} {a w : World} (h : Below B a w) (n : Nat) : Below B a (w.drewN n) := h.trans ⟨rfl, rfl, rfl, Nat.le_refl _, fun _ _ => rfl⟩
set_option maxHeartbeats 400000 in
theorem eqIntS_same (a b : Option Addr) (len c1 c2 : Nat) (xs : List Int) (w : World) (hl : xs.length = len) (hm : len ≤ 1099511627776) (h1 : RdN w a xs) (h2 : RdN w b xs) :
    Calls Tryz.prog 35 #[.slice a len c1, .slice b len c2] w fun e w' => e = .returned (.bool true) ∧ Below w.heap.size w w' := by
  go_enter Tryz.func35, Tryz.ntmps35
  go_wp2
  go_loopw [5] (fun i wr => ∃ k : Nat, k ≤ len ∧ i = .int .i64 k ∧ Below w.heap.size w wr) (fun i _ => len - (intOf i).toNat)
  case atStart => exact ⟨0, Nat.zero_le _, rfl, Below.refl _ _⟩
  case round =>
    obtain ⟨k, hk, rfl, hbel⟩ := hrel
    by_cases hlt : k < len
    · rcases h1 with rfl | ⟨p, po, rfl, hp, hpc⟩
      · simp at hl; omega
      rcases h2 with h0 | ⟨q, qo, rfl, hq, hqc⟩
      · rw [h0] at hl; simp at hl; omega
      have e1 : wr.cell? ⟨p, po + k, none⟩ = some (.int .i64 (nAt xs k)) := (hbel.cell (p := ⟨p, po + k, none⟩) hp).trans (hpc k (by omega))
      have e2 : wr.cell? ⟨q, qo + k, none⟩ = some (.int .i64 (nAt xs k)) := (hbel.cell (p := ⟨q, qo + k, none⟩) hq).trans (hqc k (by omega))
      clear hpc hqc
      go_wp2_with fail
      go_quiet (fail)
      go_wp2
      go_roundw
      case rel => exact ⟨k + 1, by omega, by go_num, below_drewN hbel _⟩
      case measure => simp [intOf]; omega
    · go_wp2
      go_ret
      exact ⟨rfl, hbel⟩
/-- What the marks leave: numbers from k on. -/
def markN (k n : Nat) : List Int := (List.range n).map fun (i : Nat) => (k : Int) + (i : Int)
theorem markN_length (k n : Nat) : (markN k n).length = n := by simp [markN]
theorem markN_at (k n i : Nat) (h : i < n) : nAt (markN k n) i = (k : Int) + i := by
  unfold nAt markN
  rw [List.getD_eq_getElem?_getD, List.getElem?_map, List.getElem?_range h]
  simp
theorem mark_step (k0 k : Nat) (xs : List Int) (h : k < xs.length) : (cellsN (markN k0 k ++ xs.drop k)).set k (.int .i64 ((k0 : Int) + k)) = cellsN (markN k0 (k + 1) ++ xs.drop (k + 1)) := by
  have e1 : markN k0 (k + 1) = markN k0 k ++ [(k0 : Int) + (k : Int)] := by simp [markN, List.range_succ]
  have e2 : xs.drop k = xs[k] :: xs.drop (k + 1) := List.drop_eq_getElem_cons h
  have e4 : (cellsN (markN k0 k)).length = k := by rw [cellsN_length, markN_length]
  have e6 : cellsN (xs.drop k) = cellsN [xs[k]] ++ cellsN (xs.drop (k + 1)) := by rw [e2, ← cellsN_append]; rfl
  rw [e1, cellsN_append, cellsN_append, cellsN_append, e6, List.set_append_right _ _ (by omega), e4, Nat.sub_self]
  simp [cellsN]
end Go.Proofs.YtjpbjbnialehbaaGreatDoor

namespace Go.Proofs.YtjpbjbnialehbaaGreatDoor
open Go.ChangeShapes Go.WideShapes Go.ChangeAt Go.RowKit
set_option linter.unusedVariables false
set_option maxRecDepth 8000
def IsRow (k : IntKind) (w : World) (a : Option Addr) (len cap : Nat) (zs : List Int) : Prop :=
  (a = none ∧ len = 0 ∧ cap = 0 ∧ zs = []) ∨
  ∃ x, a = some x ∧ len ≤ cap ∧ cap ≤ maxLen ∧ zs.length = cap ∧ (∀ i, i < zs.length → w.cell? (x.add i) = some (.int k (zs.getD i 0))) ∧ ∀ n ∈ zs, (Lit.int k n).wf = true
/-- A slice with address a reads as the bytes xs in the world w. -/
def Rd (w : World) (a : Option Addr) (xs : List UInt8) : Prop :=
  xs = [] ∨ ∃ b off, a = some ⟨b, off, none⟩ ∧ b < w.heap.size ∧ ∀ i, i < xs.length → w.cell? ⟨b, off + i, none⟩ = some (.int .u8 (bAt xs i))
theorem Rd.later {w w' : World} {a : Option Addr} {xs : List UInt8} (h : Rd w a xs) (hb : Below w.heap.size w w') : Rd w' a xs := by
  rcases h with h | ⟨b, off, ha, hlt, hc⟩
  · exact .inl h
  · exact .inr ⟨b, off, ha, Nat.lt_of_lt_of_le hlt hb.size, fun i hi => (hb.cell (p := ⟨b, off + i, none⟩) hlt).trans (hc i hi)⟩
def cellsB (ys : List UInt8) : List Value := ys.map fun y => .int .u8 (y.toNat : Int)
/-- v is a slice of the call's own (blocks from B on) that holds the bytes ys. -/
def OwnB (w : World) (B : Nat) (v : Value) (ys : List UInt8) : Prop := w.ownsRow B 5 1 v ys.length (cellsB ys)
theorem Rd.alloc {w : World} {a : Option Addr} {xs : List UInt8} (h : Rd w a xs) (o : Obj) : Rd (w.alloc o) a xs := h.later ((Below.refl _ _).alloc (Nat.le_refl _) _)
theorem OwnB.rd {w : World} {B : Nat} {v : Value} {ys : List UInt8} (h : OwnB w B v ys) : ∃ a cap, v = .slice a ys.length cap ∧ ys.length ≤ cap ∧ cap ≤ maxLen ∧ Rd w a ys ∧ (∀ ad, a = some ad → B ≤ ad.block) ∧ (a = none → cap = 0) := by
  obtain ⟨_, ⟨rfl, h0⟩ | ⟨g, cap, cur, rfl, hg, hh, hn, hm, hs, ht⟩⟩ := id h
  · obtain rfl : ys = [] := List.eq_nil_of_length_eq_zero h0
    exact ⟨none, 0, rfl, Nat.le_refl _, Nat.zero_le _, .inl rfl, (fun _ h => by cases h), fun _ => rfl⟩
  · refine ⟨_, cap, rfl, hn, hm, .inr ⟨g, 0, rfl, (Array.getElem?_eq_some_iff.1 hh).1, fun i hi => ?_⟩, (fun ad h => by cases h; exact hg), fun h => by cases h⟩
    have h2 := World.ownsRow.cellAt h i (by omega)
    rw [Nat.zero_add, h2]
    simp only [cellsB, List.getElem?_map, List.getElem?_eq_getElem hi, Option.map_some]
    unfold bAt
    rw [List.getD_eq_getElem?_getD, List.getElem?_eq_getElem hi]
    rfl
theorem OwnB.rd1 {w : World} {B : Nat} {a : Option Addr} {n cap : Nat} {ys : List UInt8} (h : OwnB w B (.slice a n cap) ys) : Rd w a ys := by
  obtain ⟨a', cap', e, _, _, hr, _⟩ := h.rd
  cases e
  exact hr
theorem OwnB.keep {w w' : World} {B : Nat} {v : Value} {ys : List UInt8} (h : OwnB w B v ys) (hs : ∀ g, v.ownBlock = some g → g < w.heap.size → w'.heap[g]? = w.heap[g]?) : OwnB w' B v ys := by
  obtain ⟨h1, h2 | ⟨g, cap, cur, rfl, hg, hh, r⟩⟩ := h
  · exact ⟨h1, .inl h2⟩
  · exact ⟨h1, .inr ⟨g, cap, cur, rfl, hg, (hs g rfl (Array.getElem?_eq_some_iff.1 hh).1).trans hh, r⟩⟩
theorem OwnB.later {w w' : World} {B : Nat} {v : Value} {ys : List UInt8} (h : OwnB w B v ys) (hb : Below w.heap.size w w') : OwnB w' B v ys := h.keep fun g _ hg => hb.block g hg
theorem OwnB.past {w w' : World} {B : Nat} {v : Value} {ys : List UInt8} {b : Nat} (h : OwnB w B v ys) (hb : w.grownBy w' (some b)) (hne : v.ownBlock ≠ some b) : OwnB w' B v ys :=
  h.keep fun g hv hg => hb.block g hg (by rw [← hv]; exact hne)
theorem OwnB.lt {w : World} {B : Nat} {v : Value} {ys : List UInt8} (h : OwnB w B v ys) {g : Nat} (hg : v.ownBlock = some g) : B ≤ g ∧ g < w.heap.size := World.ownsRow.lt h g hg
/-- An owned slice that is not empty, written out. -/
theorem OwnB.form {w : World} {B : Nat} {v : Value} {ys : List UInt8} (h : OwnB w B v ys) (h0 : 0 < ys.length) : ∃ g cap, v = .slice (some ⟨g, 0, none⟩) ys.length cap ∧ B ≤ g ∧ g < w.heap.size ∧ ys.length ≤ cap ∧ cap ≤ maxLen := by
  obtain ⟨_, ⟨_, h2⟩ | ⟨g, cap, cur, rfl, hg, hh, hn, hm, r⟩⟩ := h
  · omega
  · exact ⟨g, cap, rfl, hg, (Array.getElem?_eq_some_iff.1 hh).1, hn, hm⟩
theorem Rd.past {w w' : World} {a : Option Addr} {xs : List UInt8} {b : Nat} (h : Rd w a xs) (hb : w.grownBy w' (some b)) (hne : ∀ ad, a = some ad → ad.block ≠ b) : Rd w' a xs := by
  rcases h with h | ⟨c, off, rfl, hlt, hc⟩
  · exact .inl h
  · exact .inr ⟨c, off, rfl, Nat.lt_of_lt_of_le hlt hb.size, fun i hi => (World.cell?_of_block (w := w) (hb.block c hlt (by have := hne _ rfl; simpa using this))).trans (hc i hi)⟩
theorem Rd.lt {w : World} {ad : Addr} {xs : List UInt8} (h : Rd w (some ad) xs) (h0 : 0 < xs.length) : ad.block < w.heap.size := by
  rcases h with rfl | ⟨c, off, e, hlt, _⟩
  · simp at h0
  · cases e; exact hlt
/-- A cursor in block cb over a slice of bytes that reads as xs. -/
structure Cur (w : World) (cb : Nat) (a : Option Addr) (len cap : Nat) (xs : List UInt8) : Prop where
  c0 : w.cell? ⟨cb, 0, none⟩ = some (.slice a len cap)
  c1 : ∃ i : Nat, i ≤ len ∧ w.cell? ⟨cb, 1, none⟩ = some (.int .i64 i)
  c2 : ∃ h : Int, w.cell? ⟨cb, 2, none⟩ = some (.int .i64 h)
  f1 : w.frozen? ⟨cb, 1, none⟩ = false
  f2 : w.frozen? ⟨cb, 2, none⟩ = false
  rd : Rd w a xs
  ln : xs.length = len
  lm : len ≤ 9223372036854775806
  ne : xs = [] ∨ ∀ ad, a = some ad → ad.block ≠ cb
theorem Cur.lt {w : World} {cb : Nat} {a : Option Addr} {len cap : Nat} {xs : List UInt8} (h : Cur w cb a len cap xs) : cb < w.heap.size := World.block_lt_of_cell? w _ h.c0
theorem grownBy_set {w : World} {b o : Nat} (v : Value) : w.grownBy (w.setCell ⟨b, o, none⟩ v) (some b) :=
  ⟨rfl, rfl, rfl, by simp, fun k _ hk => Below.heap_setCell w ⟨b, o, none⟩ v k (fun e => hk (by simp [e]))⟩
theorem Cur.draw {w : World} {cb : Nat} {a : Option Addr} {len cap : Nat} {xs : List UInt8} (h : Cur w cb a len cap xs) (n : Nat) : Cur (w.drewN n) cb a len cap xs :=
  ⟨h.c0, h.c1, h.c2, h.f1, h.f2, h.rd.later ⟨rfl, rfl, rfl, Nat.le_refl _, fun _ _ => rfl⟩, h.ln, h.lm, h.ne⟩
theorem Cur.code {w : World} {cb : Nat} {a : Option Addr} {len cap : Nat} {xs : List UInt8} (h : Cur w cb a len cap xs) : xs = [] ∨ ∀ ad, a = some ad → ad.block < w.heap.size := by
  rcases h.rd with h0 | ⟨b, off, rfl, hb, _⟩
  · exact .inl h0
  · exact .inr fun ad e => by cases e; exact hb
theorem Cur.past {w w' : World} {cb : Nat} {a : Option Addr} {len cap : Nat} {xs : List UInt8} {row : Option Nat} {B : Nat} (h : Cur w cb a len cap xs) (hg : w.grownBy w' row) (hB : cb < B) (hc : xs = [] ∨ ∀ ad, a = some ad → ad.block < B) (hr : ∀ g, row = some g → B ≤ g) : Cur w' cb a len cap xs := by
  have hlt := h.lt
  have hb : w'.heap[cb]? = w.heap[cb]? := hg.block cb hlt (fun e => by have := hr cb e.symm; omega)
  have hcell : ∀ o, w'.cell? ⟨cb, o, none⟩ = w.cell? ⟨cb, o, none⟩ := fun o => World.cell?_of_block (w := w) hb
  have hfr : ∀ o, w'.frozen? ⟨cb, o, none⟩ = w.frozen? ⟨cb, o, none⟩ := fun o => World.frozen?_of_block (w := w) hb
  refine ⟨(hcell 0).trans h.c0, ?_, ?_, (hfr 1).trans h.f1, (hfr 2).trans h.f2, ?_, h.ln, h.lm, h.ne⟩
  · obtain ⟨i, hi, c1⟩ := h.c1; exact ⟨i, hi, (hcell 1).trans c1⟩
  · obtain ⟨i, c2⟩ := h.c2; exact ⟨i, (hcell 2).trans c2⟩
  · rcases hc with h0 | hc
    · exact .inl h0
    · rcases h.rd with h0 | ⟨b, off, ha, hbl, hcl⟩
      · exact .inl h0
      · refine .inr ⟨b, off, ha, Nat.lt_of_lt_of_le hbl hg.size, fun i hi => ?_⟩
        refine (World.cell?_of_block (w := w) (hg.block b hbl (fun e => ?_))).trans (hcl i hi)
        have h1 := hr b e.symm
        have h2 := hc _ ha
        simp at h2
        omega
theorem Cur.later {w w' : World} {cb : Nat} {a : Option Addr} {len cap : Nat} {xs : List UInt8} (h : Cur w cb a len cap xs) (hb : Below w.heap.size w w') : Cur w' cb a len cap xs :=
  h.past (row := none) (B := w.heap.size) ⟨hb.os, hb.tape, hb.output, hb.size, fun k hk _ => hb.block k hk⟩ h.lt h.code (fun g e => by cases e)
theorem grownBy_below {w w' : World} {r : Option Nat} (hb : Below w.heap.size w w') : w.grownBy w' r := ⟨hb.os, hb.tape, hb.output, hb.size, fun k hk _ => hb.block k hk⟩
theorem grownBy_own {w w1 w2 : World} {r row : Option Nat} (h : w.grownBy w1 r) (k : w1.grownBy w2 row) (hr : ∀ g, row = some g → w.heap.size ≤ g) : w.grownBy w2 r :=
  ⟨k.os.trans h.os, k.tape.trans h.tape, k.output.trans h.output, Nat.le_trans h.size k.size, fun j hj hn => (k.block j (Nat.lt_of_lt_of_le hj h.size) (fun e => by have := hr j e.symm; omega)).trans (h.block j hj hn)⟩
theorem RdN.past {w w' : World} {a : Option Addr} {ns : List Int} {b : Nat} (h : RdN w a ns) (hb : w.grownBy w' (some b)) (hne : ∀ ad, a = some ad → ad.block ≠ b) : RdN w' a ns := by
  rcases h with h | ⟨c, off, rfl, hlt, hc⟩
  · exact .inl h
  · exact .inr ⟨c, off, rfl, Nat.lt_of_lt_of_le hlt hb.size, fun i hi => (World.cell?_of_block (w := w) (hb.block c hlt (by have := hne _ rfl; simpa using this))).trans (hc i hi)⟩
end Go.Proofs.YtjpbjbnialehbaaGreatDoor

namespace Go.Proofs.YtjpbjbnialehbaaGreatDoor
open Go.ChangeShapes Go.WideShapes Go.ChangeAt Go.RowKit
set_option linter.unusedVariables false
set_option maxRecDepth 8000
theorem OwnN.apart {w w' : World} {B C : Nat} {v u : Value} {ns ms : List Int} (h : OwnN w B v ns) (k : OwnN w C u ms) (hg : w.grownBy w' u.ownBlock) (hlt : ∀ g, v.ownBlock = some g → g < C) : OwnN w' B v ns :=
  h.keep fun g hv hl => hg.block g hl (fun e => by have := (k.lt e.symm).1; have := hlt g hv; omega)
set_option maxHeartbeats 400000 in
theorem toIntS_any (a : Option Addr) (len cap : Nat) (xs : List Int) (w : World) (hl : xs.length = len) (hm : len ≤ 1048576) (hr : RdN w a xs) :
    Calls Tryz.prog 34 #[.slice a len cap] w fun e w' => ∃ v, e = .returned v ∧ OwnN w' w.heap.size v xs ∧ Below w.heap.size w w' := by
  have hmk := run_make_row' (P := Tryz.prog) 24 3 (.int .i64 0) 8 Tryz.underlying24 info3 rfl .i64 .i64 len (by omega) (by omega)
  go_enter Tryz.func34, Tryz.ntmps34
  go_wp2
  go_loopw [4] (fun i wr => ∃ k : Nat, k ≤ len ∧ i = .int .i64 k ∧ wr.rowIs w.heap.size 3 len (fun j => if j < k then .int .i64 (nAt xs j) else .int .i64 0) ∧ Below w.heap.size w wr) (fun i _ => len - (intOf i).toNat)
  case atStart => exact ⟨0, Nat.zero_le _, rfl, (World.rowIs_made w (.int .i64 0) len 3).congr (fun i hi => by simp), (Below.refl _ _).alloc (Nat.le_refl _) _⟩
  case round =>
    obtain ⟨k, hk, rfl, hrow, hbel⟩ := hrel
    by_cases hlt : k < len
    · rcases hr with rfl | ⟨b, off, rfl, hb, hc⟩
      · simp at hl; omega
      have hcx : wr.cell? ⟨b, off + k, none⟩ = some (.int .i64 (nAt xs k)) := (hbel.cell (p := ⟨b, off + k, none⟩) hb).trans (hc k (by omega))
      have hfz := hrow.frozen k
      have hco := hrow.cell hlt
      have hR := (hrow.set k (.int .i64 (nAt xs k))).congr (g := fun j => if j < k + 1 then .int .i64 (nAt xs j) else .int .i64 0) (fun j hj => by
        by_cases e : j = k
        · simp [e]
        · by_cases e2 : j < k
          · simp [e, e2, show j < k + 1 by omega]
          · simp [e, e2, show ¬ j < k + 1 by omega])
      have hB := hbel.setCell (p := ⟨w.heap.size, k, none⟩) (Nat.le_refl _) (.int .i64 (nAt xs k))
      clear hrow hbel
      go_wp2
      go_roundw
      case rel => exact ⟨k + 1, by omega, by go_num, hR, hB⟩
      case measure => simp [intOf]; omega
    · have hR := hrow.congr (g := fun j => .int .i64 (nAt xs j)) (fun j hj => by simp [show j < k by omega])
      clear hrow
      go_wp2
      go_ret
      refine ⟨.slice (some ⟨w.heap.size, 0, none⟩) len len, rfl, ?_, hbel⟩
      obtain ⟨c, hc, hs, hv⟩ := hR
      refine ⟨by rw [cellsN_length]; omega, .inr ⟨w.heap.size, len, c, by rw [hl], Nat.le_refl _, hc, by omega, by unfold maxLen; omega, by omega, ?_⟩⟩
      rw [hl, Nat.mul_one, List.take_of_length_le (by simp; omega)]
      apply List.ext_getElem?
      intro i
      by_cases hi : i < len
      · rw [Array.getElem?_toList, hv i hi]
        simp only [cellsN, List.getElem?_map, List.getElem?_eq_getElem (show i < xs.length by omega), Option.map_some, nAt, List.getD_eq_getElem?_getD, Option.getD_some]
      · rw [List.getElem?_eq_none (by simp; omega), List.getElem?_eq_none (by rw [cellsN_length]; omega)]
def Bds (ns : List Int) : Prop := ∀ i, i < ns.length → -9223372036854775808 ≤ nAt ns i ∧ nAt ns i ≤ 9223372036854775807
theorem rdN_of_row {w : World} {a : Option Addr} {len cap : Nat} {zs : List Int} (h : IsRow .i64 w a len cap zs) :
    ∃ ns : List Int, ns.length = len ∧ len ≤ cap ∧ cap ≤ maxLen ∧ RdN w a ns ∧ Bds ns := by
  rcases h with ⟨rfl, rfl, rfl, rfl⟩ | ⟨x, rfl, hl, hm, hz, hcell, hwz⟩
  · exact ⟨[], rfl, Nat.le_refl _, by unfold maxLen; omega, .inl rfl, fun i hi => by simp at hi⟩
  · have hat : ∀ i, i < len → nAt (zs.take len) i = zs.getD i 0 := fun i hi => by
      unfold nAt
      rw [List.getD_eq_getElem?_getD, List.getD_eq_getElem?_getD, List.getElem?_take, if_pos hi]
    refine ⟨zs.take len, by simp; omega, hl, hm, ?_, fun i hi => ?_⟩
    · by_cases h0 : len = 0
      · left; simp [h0]
      · right
        obtain ⟨b, off, spot⟩ := x
        have h00 := hcell 0 (by omega)
        have hspot : spot = none := by simpa [Addr.add] using World.cell?_spot h00
        subst hspot
        refine ⟨b, off, rfl, World.block_lt_of_cell? w _ h00, fun i hi => ?_⟩
        have hi' : i < len := by simp at hi; omega
        have := hcell i (by omega)
        rw [hat i hi']
        exact (show w.cell? ⟨b, off + i, none⟩ = _ by have h2 := this; unfold Addr.add at h2; by_cases hi0 : i = 0 <;> simpa [hi0] using h2)
    · have hi' : i < len := by simp at hi; omega
      rw [hat i hi']
      have := bounds_i64 (hwz (zs.getD i 0) (by rw [List.getD_eq_getElem?_getD, List.getElem?_eq_getElem (by omega)]; exact List.getElem_mem _))
      omega
end Go.Proofs.YtjpbjbnialehbaaGreatDoor

namespace Go.Proofs.YtjpbjbnialehbaaGreatDoor
open Go.ChangeShapes Go.WideShapes Go.ChangeAt Go.RowKit
set_option linter.unusedVariables false
set_option maxRecDepth 8000
/-- A world that keeps what w0 has below B. -/
structure Sub (B : Nat) (w0 : World) where
  w : World
  h : Below B w0 w
theorem Sub.ne (B : Nat) (w0 : World) : Nonempty (Sub B w0) := ⟨⟨w0, Below.refl _ _⟩⟩
section
variable {B : Nat} {w0 : World} {P : Program}
theorem Sub.call {f : FuncId} {args : Array Value} {x : Sub B w0} {v : Value} (hB : B ≤ w0.heap.size) (h : Calls P f args x.w fun e w' => e = .returned v ∧ Below x.w.heap.size x.w w') : Calls P f args x.w fun e w' => e = .returned v ∧ ∃ y : Sub B w0, w' = y.w :=
  h.mono fun e w' ⟨he, hb⟩ => ⟨he, ⟨w', x.h.trans (hb.mono (Nat.le_trans hB x.h.size))⟩, rfl⟩
theorem Sub.same {f : FuncId} {args : Array Value} {x : Sub B w0} {v : Value} (h : Calls P f args x.w fun e w' => e = .returned v ∧ w' = x.w) : Calls P f args x.w fun e w' => e = .returned v ∧ ∃ y : Sub B w0, w' = y.w :=
  h.mono fun e w' ⟨he, hb⟩ => ⟨he, x, hb⟩
def Sub.top (o : World) (b : Obj) : Sub (o.heap.size + 1) (o.alloc b) := ⟨_, Below.refl _ _⟩
theorem Sub.cells {o : World} {cs : Array Value} {t : TypeId} (y : Sub (o.heap.size + 1) (o.alloc (Obj.cells cs t))) (j : Nat) (v : Value) (h : cs[j]? = some v) : y.w.cell? ⟨o.heap.size, j, none⟩ = some v :=
  box_cells o cs t y.w y.h j v h
theorem wp_region_sub {id : Nat} {Q : Exit → Act → World → Prop} {a : Act} (x : Sub B w0) {l : List Oper} (hm : P.follows .mixedOrders = true) (hB : Region.lexB .any l.toArray = true)
    (h : wpQuiet P l.toArray (fun w' => ∃ y : Sub B w0, w' = y.w) (fun a' => ∀ y : Sub B w0, Q .normal a' y.w) l a) : (Code.region id l.toArray true).wp P Q a x.w :=
  wp_region_quiet (C := fun w' => ∃ y : Sub B w0, w' = y.w) hm hB ⟨⟨_, x.h.drew⟩, rfl⟩ (by
    have e : (fun a' => ∀ w', (∃ y : Sub B w0, w' = y.w) → Q .normal a' w') = (fun a' => ∀ y : Sub B w0, Q .normal a' y.w) := by
      funext a'
      apply propext
      constructor
      · intro h y; exact h _ ⟨y, rfl⟩
      · rintro h _ ⟨y, rfl⟩; exact h y
    rw [e]
    simpa using h)
end
end Go.Proofs.YtjpbjbnialehbaaGreatDoor

namespace Go.Proofs.YtjpbjbnialehbaaGreatDoor
open Go.ChangeShapes Go.WideShapes Go.ChangeAt Go.RowKit
set_option linter.unusedVariables false
set_option maxRecDepth 8000
set_option linter.unusedSimpArgs false
/-- A slice: address, length, room. -/
structure Sl where
  a : Option Addr
  n : Nat
  c : Nat
/-- A machine as a value. -/
structure Mv where
  m : Sl
  r : Sl
  n : Bool
  z : Bool
  v : Bool
  c : Bool
  i : Sl
  o : Sl
  st : Int
def Mv.cs (x : Mv) : Array Value := #[.slice x.m.a x.m.n x.m.c, .slice x.r.a x.r.n x.r.c, .bool x.n, .bool x.z, .bool x.v, .bool x.c, .slice x.i.a x.i.n x.i.c, .slice x.o.a x.o.n x.o.c, .int .i64 x.st]
theorem Mv.cs_one (x : Mv) : x.cs.all (·.oneCell') = true := by simp [Mv.cs, Value.oneCell']
section
variable {w : World} {g : Nat} {x : Mv} {t : TypeId}
theorem row_m (h : w.heap[g]? = some (.cells x.cs t (0, 0))) : w.cell? ⟨g, 0, none⟩ = some (.slice x.m.a x.m.n x.m.c) := (cell_of_row w g 0 _ t _ h).trans rfl
theorem row_r (h : w.heap[g]? = some (.cells x.cs t (0, 0))) : w.cell? ⟨g, 1, none⟩ = some (.slice x.r.a x.r.n x.r.c) := (cell_of_row w g 1 _ t _ h).trans rfl
theorem row_n (h : w.heap[g]? = some (.cells x.cs t (0, 0))) : w.cell? ⟨g, 2, none⟩ = some (.bool x.n) := (cell_of_row w g 2 _ t _ h).trans rfl
theorem row_z (h : w.heap[g]? = some (.cells x.cs t (0, 0))) : w.cell? ⟨g, 3, none⟩ = some (.bool x.z) := (cell_of_row w g 3 _ t _ h).trans rfl
theorem row_v (h : w.heap[g]? = some (.cells x.cs t (0, 0))) : w.cell? ⟨g, 4, none⟩ = some (.bool x.v) := (cell_of_row w g 4 _ t _ h).trans rfl
theorem row_c (h : w.heap[g]? = some (.cells x.cs t (0, 0))) : w.cell? ⟨g, 5, none⟩ = some (.bool x.c) := (cell_of_row w g 5 _ t _ h).trans rfl
theorem row_i (h : w.heap[g]? = some (.cells x.cs t (0, 0))) : w.cell? ⟨g, 6, none⟩ = some (.slice x.i.a x.i.n x.i.c) := (cell_of_row w g 6 _ t _ h).trans rfl
theorem row_o (h : w.heap[g]? = some (.cells x.cs t (0, 0))) : w.cell? ⟨g, 7, none⟩ = some (.slice x.o.a x.o.n x.o.c) := (cell_of_row w g 7 _ t _ h).trans rfl
theorem row_st (h : w.heap[g]? = some (.cells x.cs t (0, 0))) : w.cell? ⟨g, 8, none⟩ = some (.int .i64 x.st) := (cell_of_row w g 8 _ t _ h).trans rfl
theorem row_fz (h : w.heap[g]? = some (.cells x.cs t (0, 0))) (j : Nat) : w.frozen? ⟨g, j, none⟩ = false := by simp [World.frozen?, h]
end
/-- What is left of l behind n, as a size. -/
def szL (l : Int) (n : Nat) : Int := if (n : Int) ≤ l then l - n else -1
def Mv.lens (x : Mv) : Prop := x.m.n ≤ maxLen ∧ x.r.n ≤ maxLen ∧ x.i.n ≤ maxLen ∧ x.o.n ≤ maxLen
def Mv.small (x : Mv) : Prop := x.m.n ≤ 1048576 ∧ x.r.n ≤ 1048576 ∧ x.i.n ≤ 1048576 ∧ x.o.n ≤ 1048576
theorem szL_bd (l : Int) (n : Nat) (h : l ≤ 1048576) : szL l n ≤ 1048576 ∧ (0 ≤ szL l n → (n : Int) ≤ 1048576) := by unfold szL; split <;> omega
set_option maxHeartbeats 400000 in
theorem szS_any (a : Option Addr) (n c : Nat) (l : Int) (w : World) (hn : n ≤ maxLen) (h0 : 0 ≤ l) (hl : l ≤ 1048576) : Calls Tryz.prog 33 #[.slice a n c, .int .i64 l] w fun e w' => e = .returned (.int .i64 (szL l n)) ∧ w' = w := by
  unfold maxLen at hn
  unfold szL
  by_cases h : (n : Int) ≤ l
  · rw [if_pos h]
    go_enter Tryz.func33, Tryz.ntmps33
    go_wp2
    go_ret
    exact ⟨rfl, rfl⟩
  · rw [if_neg h]
    go_enter Tryz.func33, Tryz.ntmps33
    go_wp2
    go_ret
    exact ⟨rfl, rfl⟩
set_option maxHeartbeats 1000000 in
theorem szM_any (x : Mv) (w : World) (hx : x.lens) : Calls Tryz.prog 12 #[.agg x.cs, .int .i64 1048576] w fun e w' => ∃ l : Int, e = .returned (.int .i64 l) ∧ (0 ≤ l → x.small) ∧ Below w.heap.size w w' := by
  obtain ⟨h1, h2, h3, h4⟩ := hx
  have HB := hide ((Below.refl w.heap.size w).alloc (Nat.le_refl _) (.cells x.cs 31))
  have H : (w.alloc (.cells x.cs 31)).heap[w.heap.size]? = some (.cells x.cs 31 (0, 0)) := heap_alloc_last w _
  have c0 := row_m H
  have c1 := row_r H
  have c6 := row_i H
  have c7 := row_o H
  clear H
  go_enter Tryz.func12, Tryz.ntmps12
  go_wp2_with fail
  refine (szS_any x.m.a x.m.n x.m.c 1048576 _ h1 (by omega) (by omega)).mono ?_
  rintro e w' ⟨rfl, rfl⟩
  have b1 := szL_bd 1048576 x.m.n (by omega)
  generalize szL 1048576 x.m.n = l1 at b1 ⊢
  by_cases p1 : l1 < 0
  · go_wp2
    go_ret
    exact ⟨-1, rfl, fun h => by omega, unhide HB⟩
  go_wp2_with fail
  refine (szS_any x.r.a x.r.n x.r.c l1 _ h2 (by omega) (by omega)).mono ?_
  rintro e w' ⟨rfl, rfl⟩
  have b2 := szL_bd l1 x.r.n (by omega)
  generalize szL l1 x.r.n = l2 at b2 ⊢
  by_cases p2 : l2 < 0
  · go_wp2
    go_ret
    exact ⟨-1, rfl, fun h => by omega, unhide HB⟩
  go_wp2_with fail
  refine (szS_any x.i.a x.i.n x.i.c l2 _ h3 (by omega) (by omega)).mono ?_
  rintro e w' ⟨rfl, rfl⟩
  have b3 := szL_bd l2 x.i.n (by omega)
  generalize szL l2 x.i.n = l3 at b3 ⊢
  by_cases p3 : l3 < 0
  · go_wp2
    go_ret
    exact ⟨-1, rfl, fun h => by omega, unhide HB⟩
  go_wp2_with fail
  refine (szS_any x.o.a x.o.n x.o.c l3 _ h4 (by omega) (by omega)).mono ?_
  rintro e w' ⟨rfl, rfl⟩
  have b4 := szL_bd l3 x.o.n (by omega)
  generalize szL l3 x.o.n = l4 at b4 ⊢
  by_cases p4 : l4 < 0
  · go_wp2
    go_ret
    exact ⟨-1, rfl, fun h => by omega, unhide HB⟩
  go_wp2
  go_ret
  exact ⟨l4, rfl, fun h => ⟨by omega, by omega, by omega, by omega⟩, unhide HB⟩
end Go.Proofs.YtjpbjbnialehbaaGreatDoor

namespace Go.Proofs.YtjpbjbnialehbaaGreatDoor
open Go.ChangeShapes Go.WideShapes Go.ChangeAt Go.RowKit
set_option linter.unusedVariables false
set_option maxRecDepth 8000
set_option linter.unusedSimpArgs false
/-- What the four lists of a machine hold. -/
structure Md where
  m : List Int
  r : List Int
  i : List Int
  o : List Int
def Sl.v (s : Sl) : Value := .slice s.a s.n s.c
/-- The flags, and how it stands. -/
def Mv.fl (x : Mv) : Bool × Bool × Bool × Bool × Int := (x.n, x.z, x.v, x.c, x.st)
theorem fl_n {x y : Mv} (h : y.fl = x.fl) : y.n = x.n := congrArg (·.1) h
theorem fl_z {x y : Mv} (h : y.fl = x.fl) : y.z = x.z := congrArg (·.2.1) h
theorem fl_v {x y : Mv} (h : y.fl = x.fl) : y.v = x.v := congrArg (·.2.2.1) h
theorem fl_c {x y : Mv} (h : y.fl = x.fl) : y.c = x.c := congrArg (·.2.2.2.1) h
theorem fl_st {x y : Mv} (h : y.fl = x.fl) : y.st = x.st := congrArg (·.2.2.2.2) h
/-- The machine x reads as d. -/
structure RdM (w : World) (x : Mv) (d : Md) : Prop where
  m : RdN w x.m.a d.m
  r : RdN w x.r.a d.r
  i : RdN w x.i.a d.i
  o : RdN w x.o.a d.o
  ml : d.m.length = x.m.n
  rl : d.r.length = x.r.n
  il : d.i.length = x.i.n
  ol : d.o.length = x.o.n
/-- Two slices in no block together. -/
def Ap (s t : Sl) : Prop := ∀ g, s.v.ownBlock = some g → t.v.ownBlock = some g → False
/-- The machine x is of blocks from B on, each list in a block of its own, and holds d. -/
structure OwnM (w : World) (B : Nat) (x : Mv) (d : Md) : Prop where
  m : OwnN w B x.m.v d.m
  r : OwnN w B x.r.v d.r
  i : OwnN w B x.i.v d.i
  o : OwnN w B x.o.v d.o
  mr : Ap x.m x.r
  mi : Ap x.m x.i
  mo : Ap x.m x.o
  ri : Ap x.r x.i
  ro : Ap x.r x.o
  io : Ap x.i x.o
theorem Ap.symm {s t : Sl} (h : Ap s t) : Ap t s := fun g a b => h g b a
theorem OwnN.len {w : World} {B : Nat} {s : Sl} {ns : List Int} (h : OwnN w B s.v ns) : ns.length = s.n := by
  obtain ⟨a, c, e, _⟩ := h.rd
  obtain ⟨sa, sn, sc⟩ := s
  unfold Sl.v at e
  simp at e
  exact e.2.1.symm
theorem OwnN.rdS {w : World} {B : Nat} {s : Sl} {ns : List Int} (h : OwnN w B s.v ns) : RdN w s.a ns := OwnN.rd1 (n := s.n) (cap := s.c) h
section
variable {w w' : World} {B C : Nat} {x y : Mv} {d e : Md}
theorem OwnM.rd (h : OwnM w B x d) : RdM w x d := ⟨h.m.rdS, h.r.rdS, h.i.rdS, h.o.rdS, h.m.len, h.r.len, h.i.len, h.o.len⟩
theorem RdM.later (h : RdM w x d) (hb : Below w.heap.size w w') : RdM w' x d := ⟨h.m.later hb, h.r.later hb, h.i.later hb, h.o.later hb, h.ml, h.rl, h.il, h.ol⟩
theorem OwnM.later (h : OwnM w B x d) (hb : Below w.heap.size w w') : OwnM w' B x d := { h with m := h.m.later hb, r := h.r.later hb, i := h.i.later hb, o := h.o.later hb }
theorem OwnM.keep (h : OwnM w B x d) (hs : ∀ g, B ≤ g → g < w.heap.size → w'.heap[g]? = w.heap[g]?) : OwnM w' B x d :=
  { h with m := h.m.keep fun g hv hg => hs g (h.m.lt hv).1 hg, r := h.r.keep fun g hv hg => hs g (h.r.lt hv).1 hg, i := h.i.keep fun g hv hg => hs g (h.i.lt hv).1 hg, o := h.o.keep fun g hv hg => hs g (h.o.lt hv).1 hg }
theorem OwnM.base (h : OwnM w B x d) (hB : C ≤ B) : OwnM w C x d := { h with m := h.m.base hB, r := h.r.base hB, i := h.i.base hB, o := h.o.base hB }
theorem Below.drop {B : Nat} {a w : World} {b j : Nat} {v : Value} (h : Below B a w) (hb : B ≤ b) : Below B a (w.setCell ⟨b, j, none⟩ v) := h.setCell (p := ⟨b, j, none⟩) hb v
theorem OwnN.put {w : World} {B b j : Nat} {v u : Value} {ns : List Int} (h : OwnN w B v ns) (hb : b < B) : OwnN (w.setCell ⟨b, j, none⟩ u) B v ns :=
  h.keep fun g hv hg => Below.heap_setCell w ⟨b, j, none⟩ u g (by have := (h.lt hv).1; show g ≠ b; omega)
end
/-- Blocks of two slices that are parted by a bound. -/
theorem ap_of {w w' : World} {B C : Nat} {s t : Sl} {ns ms : List Int} (h : OwnN w B s.v ns) (k : OwnN w' C t.v ms) (hC : w.heap.size ≤ C) : Ap s t := fun g a b => by
  have := (h.lt a).2
  have := (k.lt b).1
  omega
def zMv : Mv := ⟨⟨none, 0, 0⟩, ⟨none, 0, 0⟩, false, false, false, false, ⟨none, 0, 0⟩, ⟨none, 0, 0⟩, 0⟩
theorem row_put {w : World} {g : Nat} {x : Mv} {t : TypeId} (h : w.heap[g]? = some (.cells x.cs t (0, 0))) (j : Nat) (v : Value) (x' : Mv) (he : x.cs.setIfInBounds j v = x'.cs) : (w.setCell ⟨g, j, none⟩ v).heap[g]? = some (.cells x'.cs t (0, 0)) := by
  rw [setCell_eq_setRow w g j x.cs t (0, 0) v h, he]
  exact setRow_heap w g x.cs _ t _ h
theorem row_keep {w : World} {g b j : Nat} {u : Value} {o : Obj} (h : w.heap[g]? = some o) (hne : g ≠ b) : (w.setCell ⟨b, j, none⟩ u).heap[g]? = some o := (Below.heap_setCell w ⟨b, j, none⟩ u g hne).trans h
theorem row_lt {w : World} {g : Nat} {o : Obj} (h : w.heap[g]? = some o) : g < w.heap.size := (Array.getElem?_eq_some_iff.1 h).1
theorem row_lat {w w' : World} {g : Nat} {o : Obj} (h : w.heap[g]? = some o) (hb : Below w.heap.size w w') : w'.heap[g]? = some o := (hb.block g (row_lt h)).trans h
/-- While a machine is copied: what came in, the answer's place, what is made. -/
structure Cm (w wr : World) (tb : TypeId) (x o : Mv) : Prop where
  bx : wr.heap[w.heap.size]? = some (.cells x.cs tb (0, 0))
  re : wr.heap[w.heap.size + 1]? = some (.cells zMv.cs 26 (0, 0))
  out : wr.heap[w.heap.size + 1 + 1]? = some (.cells o.cs 26 (0, 0))
  bel : Below w.heap.size w wr
  sz : w.heap.size + 3 ≤ wr.heap.size
section
variable {w wr w' : World} {tb : TypeId} {x o : Mv}
theorem Cm.later (h : Cm w wr tb x o) (hb : Below wr.heap.size wr w') : Cm w w' tb x o :=
  ⟨row_lat h.bx hb, row_lat h.re hb, row_lat h.out hb, h.bel.trans (hb.mono (by have := h.bel.size; omega)), Nat.le_trans h.sz hb.size⟩
theorem Cm.put (h : Cm w wr tb x o) (j : Nat) (v : Value) (o' : Mv) (he : o.cs.setIfInBounds j v = o'.cs) : Cm w (wr.setCell ⟨w.heap.size + 1 + 1, j, none⟩ v) tb x o' :=
  ⟨row_keep h.bx (by omega), row_keep h.re (by omega), row_put h.out j v o' he, Below.drop h.bel (by omega), by simpa using h.sz⟩
theorem cm_new0 (w : World) (tb : TypeId) (x : Mv) : Cm w (((w.alloc (.cells x.cs tb)).alloc (.cells zMv.cs 26)).alloc (.cells zMv.cs 26)) tb x zMv := by
  have z1 : (w.alloc (.cells x.cs tb)).heap.size = w.heap.size + 1 := by simp
  have z2 : ((w.alloc (.cells x.cs tb)).alloc (.cells zMv.cs 26)).heap.size = w.heap.size + 2 := by simp
  have a1 := row_lat (row_lat (heap_alloc_last w (.cells x.cs tb)) ((Below.refl _ _).alloc (Nat.le_refl _) (.cells zMv.cs 26))) ((Below.refl _ _).alloc (Nat.le_refl _) (.cells zMv.cs 26))
  have a2 := row_lat (heap_alloc_last (w.alloc (.cells x.cs tb)) (.cells zMv.cs 26)) ((Below.refl _ _).alloc (Nat.le_refl _) (.cells zMv.cs 26))
  have a3 := heap_alloc_last ((w.alloc (.cells x.cs tb)).alloc (.cells zMv.cs 26)) (.cells zMv.cs 26)
  rw [z1] at a2
  rw [z2] at a3
  exact ⟨a1, a2, a3, (((Below.refl _ _).alloc (Nat.le_refl _) _).alloc (by omega) _).alloc (by omega) _, by simp⟩
theorem cm_new (w : World) (tb : TypeId) (x : Mv) : Cm w (((w.alloc (.cells x.cs tb)).alloc (.cells #[Value.slice none 0 0, Value.slice none 0 0, Value.bool false, Value.bool false, Value.bool false, Value.bool false, Value.slice none 0 0, Value.slice none 0 0, Value.int .i64 0] 26)).alloc (.cells #[Value.slice none 0 0, Value.slice none 0 0, Value.bool false, Value.bool false, Value.bool false, Value.bool false, Value.slice none 0 0, Value.slice none 0 0, Value.int .i64 0] 26)) tb x zMv := cm_new0 w tb x
end
theorem RdN.put {w : World} {a : Option Addr} {ns : List Int} (h : RdN w a ns) {b j : Nat} {v : Value} (hne : ns = [] ∨ ∀ ad, a = some ad → ad.block ≠ b) : RdN (w.setCell ⟨b, j, none⟩ v) a ns := by
  rcases hne with h0 | hne
  · exact .inl h0
  · exact h.past (grownBy_set v) hne
/-- What came in reads on while the copy is written. -/
theorem RdM.set {w wr : World} {x o : Mv} {d : Md} {tb : TypeId} (h : RdM wr x d) (k : Cm w wr tb x o) (hw : RdM w x d) (j : Nat) (v : Value) : RdM (wr.setCell ⟨w.heap.size + 1 + 1, j, none⟩ v) x d := by
  have key : ∀ {a : Option Addr} {ns : List Int}, RdN w a ns → ns = [] ∨ ∀ ad, a = some ad → ad.block ≠ w.heap.size + 1 + 1 := fun hr => by
    rcases hr with h0 | ⟨b, off, rfl, hb, _⟩
    · exact .inl h0
    · exact .inr fun ad e => by cases e; show b ≠ _; omega
  exact ⟨h.m.put (key hw.m), h.r.put (key hw.r), h.i.put (key hw.i), h.o.put (key hw.o), h.ml, h.rl, h.il, h.ol⟩
theorem setRow_size (w : World) (g : Nat) (cs : Array Value) : (w.setRow g cs).heap.size = w.heap.size := by simp [World.setRow]
/-- What stands when a copy is laid into the answer's place. -/
structure Cd (w wr : World) (o : Mv) : Prop where
  re : wr.heap[w.heap.size + 1]? = some (.cells o.cs 26 (0, 0))
  bel : Below w.heap.size w wr
theorem Cm.done {w wr : World} {tb : TypeId} {x o : Mv} (h : Cm w wr tb x o) : Cd w (wr.setRow (w.heap.size + 1) o.cs) o :=
  ⟨setRow_heap wr _ zMv.cs _ 26 _ h.re, below_setRow h.bel (by omega) _⟩
theorem OwnN.row {w : World} {B g : Nat} {v : Value} {ns : List Int} (h : OwnN w B v ns) (hb : g < B) (cs : Array Value) : OwnN (w.setRow g cs) B v ns :=
  h.keep fun j hv hj => setRow_other w g j cs (by have := (h.lt hv).1; omega)
set_option maxHeartbeats 4000000 in
theorem toM_any (x : Mv) (d : Md) (w : World) (hs : x.small) (hr : RdM w x d) : Calls Tryz.prog 13 #[.agg x.cs] w fun e w' => ∃ y : Mv, e = .returned (.agg y.cs) ∧ y.fl = x.fl ∧ OwnM w' (w.heap.size + 3) y d ∧ Below w.heap.size w w' := by
  obtain ⟨s0, s1, s2, s3⟩ := hs
  have C := hide (cm_new w 31 x)
  have HR := hide hr
  have R := hide (hr.later (unhide C).bel)
  have q0 : x.cs[0]? = some (.slice x.m.a x.m.n x.m.c) := rfl
  have T := hide (toIntS_any x.m.a x.m.n x.m.c d.m _ hr.ml s0 (unhide R).m)
  clear hr
  go_enter Tryz.func13, Tryz.ntmps13
  go_wp2_with fail
  refine (unhide T).mono ?_
  rintro e w0 ⟨v, rfl, own, bel⟩
  obtain ⟨a0, n0, c0, rfl⟩ : ∃ a n c, v = .slice a n c := by obtain ⟨a, c, e, _⟩ := own.rd; exact ⟨_, _, _, e⟩
  have Cn := hide ((unhide C).later bel)
  have Rn := hide ((unhide R).later bel)
  have O0 := hide (OwnN.base own (B' := w.heap.size + 3) (unhide C).sz)
  clear own bel T C R q0
  have o0 := row_m (unhide Cn).out
  have f0 := row_fz (unhide Cn).out 0
  have b1 := row_r (unhide Cn).bx
  have C := hide ((unhide Cn).put 0 (.slice a0 n0 c0) (⟨⟨a0, n0, c0⟩, ⟨none, 0, 0⟩, false, false, false, false, ⟨none, 0, 0⟩, ⟨none, 0, 0⟩, 0⟩ : Mv) rfl)
  have R := hide ((unhide Rn).set (unhide Cn) (unhide HR) 0 (.slice a0 n0 c0))
  have On := hide ((unhide O0).put (b := w.heap.size + 1 + 1) (j := 0) (u := .slice a0 n0 c0) (by omega))
  clear O0
  have O0 := hide (unhide On)
  clear On
  have T := hide (toIntS_any x.r.a x.r.n x.r.c d.r _ (unhide R).rl s1 (unhide R).r)
  clear Cn Rn
  go_wp2_with fail
  refine (unhide T).mono ?_
  rintro e w1 ⟨v, rfl, own, bel⟩
  obtain ⟨a1, n1, c1, rfl⟩ : ∃ a n c, v = .slice a n c := by obtain ⟨a, c, e, _⟩ := own.rd; exact ⟨_, _, _, e⟩
  have Cn := hide ((unhide C).later bel)
  have Rn := hide ((unhide R).later bel)
  have O1 := hide (OwnN.base own (B' := w.heap.size + 3) (unhide C).sz)
  have On := hide ((unhide O0).later bel)
  have A01 : Hid (Ap ⟨a0, n0, c0⟩ ⟨a1, n1, c1⟩) := hide (ap_of (unhide O0) own (Nat.le_refl _))
  clear O0
  have O0 := hide (unhide On)
  clear On
  clear own bel T C R
  have o1 := row_r (unhide Cn).out
  have f1 := row_fz (unhide Cn).out 1
  have o2 := row_n (unhide Cn).out
  have f2 := row_fz (unhide Cn).out 2
  have b2 := row_n (unhide Cn).bx
  have o3 := row_z (unhide Cn).out
  have f3 := row_fz (unhide Cn).out 3
  have b3 := row_z (unhide Cn).bx
  have o4 := row_v (unhide Cn).out
  have f4 := row_fz (unhide Cn).out 4
  have b4 := row_v (unhide Cn).bx
  have o5 := row_c (unhide Cn).out
  have f5 := row_fz (unhide Cn).out 5
  have b5 := row_c (unhide Cn).bx
  have b6 := row_i (unhide Cn).bx
  have C := hide ((((((unhide Cn).put 1 (.slice a1 n1 c1) (⟨⟨a0, n0, c0⟩, ⟨a1, n1, c1⟩, false, false, false, false, ⟨none, 0, 0⟩, ⟨none, 0, 0⟩, 0⟩ : Mv) rfl).put 2 (.bool x.n) (⟨⟨a0, n0, c0⟩, ⟨a1, n1, c1⟩, x.n, false, false, false, ⟨none, 0, 0⟩, ⟨none, 0, 0⟩, 0⟩ : Mv) rfl).put 3 (.bool x.z) (⟨⟨a0, n0, c0⟩, ⟨a1, n1, c1⟩, x.n, x.z, false, false, ⟨none, 0, 0⟩, ⟨none, 0, 0⟩, 0⟩ : Mv) rfl).put 4 (.bool x.v) (⟨⟨a0, n0, c0⟩, ⟨a1, n1, c1⟩, x.n, x.z, x.v, false, ⟨none, 0, 0⟩, ⟨none, 0, 0⟩, 0⟩ : Mv) rfl).put 5 (.bool x.c) (⟨⟨a0, n0, c0⟩, ⟨a1, n1, c1⟩, x.n, x.z, x.v, x.c, ⟨none, 0, 0⟩, ⟨none, 0, 0⟩, 0⟩ : Mv) rfl)
  have R := hide ((((((unhide Rn).set (unhide Cn) (unhide HR) 1 (.slice a1 n1 c1)).set ((unhide Cn).put 1 (.slice a1 n1 c1) (⟨⟨a0, n0, c0⟩, ⟨a1, n1, c1⟩, false, false, false, false, ⟨none, 0, 0⟩, ⟨none, 0, 0⟩, 0⟩ : Mv) rfl) (unhide HR) 2 (.bool x.n)).set (((unhide Cn).put 1 (.slice a1 n1 c1) (⟨⟨a0, n0, c0⟩, ⟨a1, n1, c1⟩, false, false, false, false, ⟨none, 0, 0⟩, ⟨none, 0, 0⟩, 0⟩ : Mv) rfl).put 2 (.bool x.n) (⟨⟨a0, n0, c0⟩, ⟨a1, n1, c1⟩, x.n, false, false, false, ⟨none, 0, 0⟩, ⟨none, 0, 0⟩, 0⟩ : Mv) rfl) (unhide HR) 3 (.bool x.z)).set ((((unhide Cn).put 1 (.slice a1 n1 c1) (⟨⟨a0, n0, c0⟩, ⟨a1, n1, c1⟩, false, false, false, false, ⟨none, 0, 0⟩, ⟨none, 0, 0⟩, 0⟩ : Mv) rfl).put 2 (.bool x.n) (⟨⟨a0, n0, c0⟩, ⟨a1, n1, c1⟩, x.n, false, false, false, ⟨none, 0, 0⟩, ⟨none, 0, 0⟩, 0⟩ : Mv) rfl).put 3 (.bool x.z) (⟨⟨a0, n0, c0⟩, ⟨a1, n1, c1⟩, x.n, x.z, false, false, ⟨none, 0, 0⟩, ⟨none, 0, 0⟩, 0⟩ : Mv) rfl) (unhide HR) 4 (.bool x.v)).set (((((unhide Cn).put 1 (.slice a1 n1 c1) (⟨⟨a0, n0, c0⟩, ⟨a1, n1, c1⟩, false, false, false, false, ⟨none, 0, 0⟩, ⟨none, 0, 0⟩, 0⟩ : Mv) rfl).put 2 (.bool x.n) (⟨⟨a0, n0, c0⟩, ⟨a1, n1, c1⟩, x.n, false, false, false, ⟨none, 0, 0⟩, ⟨none, 0, 0⟩, 0⟩ : Mv) rfl).put 3 (.bool x.z) (⟨⟨a0, n0, c0⟩, ⟨a1, n1, c1⟩, x.n, x.z, false, false, ⟨none, 0, 0⟩, ⟨none, 0, 0⟩, 0⟩ : Mv) rfl).put 4 (.bool x.v) (⟨⟨a0, n0, c0⟩, ⟨a1, n1, c1⟩, x.n, x.z, x.v, false, ⟨none, 0, 0⟩, ⟨none, 0, 0⟩, 0⟩ : Mv) rfl) (unhide HR) 5 (.bool x.c))
  have On := hide ((((((unhide O0).put (b := w.heap.size + 1 + 1) (j := 1) (u := .slice a1 n1 c1) (by omega)).put (b := w.heap.size + 1 + 1) (j := 2) (u := .bool x.n) (by omega)).put (b := w.heap.size + 1 + 1) (j := 3) (u := .bool x.z) (by omega)).put (b := w.heap.size + 1 + 1) (j := 4) (u := .bool x.v) (by omega)).put (b := w.heap.size + 1 + 1) (j := 5) (u := .bool x.c) (by omega))
  clear O0
  have O0 := hide (unhide On)
  clear On
  have On := hide ((((((unhide O1).put (b := w.heap.size + 1 + 1) (j := 1) (u := .slice a1 n1 c1) (by omega)).put (b := w.heap.size + 1 + 1) (j := 2) (u := .bool x.n) (by omega)).put (b := w.heap.size + 1 + 1) (j := 3) (u := .bool x.z) (by omega)).put (b := w.heap.size + 1 + 1) (j := 4) (u := .bool x.v) (by omega)).put (b := w.heap.size + 1 + 1) (j := 5) (u := .bool x.c) (by omega))
  clear O1
  have O1 := hide (unhide On)
  clear On
  have T := hide (toIntS_any x.i.a x.i.n x.i.c d.i _ (unhide R).il s2 (unhide R).i)
  clear Cn Rn
  go_wp2_with fail
  refine (unhide T).mono ?_
  rintro e w2 ⟨v, rfl, own, bel⟩
  obtain ⟨a2, n2, c2, rfl⟩ : ∃ a n c, v = .slice a n c := by obtain ⟨a, c, e, _⟩ := own.rd; exact ⟨_, _, _, e⟩
  have Cn := hide ((unhide C).later bel)
  have Rn := hide ((unhide R).later bel)
  have O2 := hide (OwnN.base own (B' := w.heap.size + 3) (unhide C).sz)
  have On := hide ((unhide O0).later bel)
  have A02 : Hid (Ap ⟨a0, n0, c0⟩ ⟨a2, n2, c2⟩) := hide (ap_of (unhide O0) own (Nat.le_refl _))
  clear O0
  have O0 := hide (unhide On)
  clear On
  have On := hide ((unhide O1).later bel)
  have A12 : Hid (Ap ⟨a1, n1, c1⟩ ⟨a2, n2, c2⟩) := hide (ap_of (unhide O1) own (Nat.le_refl _))
  clear O1
  have O1 := hide (unhide On)
  clear On
  clear own bel T C R
  have o6 := row_i (unhide Cn).out
  have f6 := row_fz (unhide Cn).out 6
  have b7 := row_o (unhide Cn).bx
  have C := hide ((unhide Cn).put 6 (.slice a2 n2 c2) (⟨⟨a0, n0, c0⟩, ⟨a1, n1, c1⟩, x.n, x.z, x.v, x.c, ⟨a2, n2, c2⟩, ⟨none, 0, 0⟩, 0⟩ : Mv) rfl)
  have R := hide ((unhide Rn).set (unhide Cn) (unhide HR) 6 (.slice a2 n2 c2))
  have On := hide ((unhide O0).put (b := w.heap.size + 1 + 1) (j := 6) (u := .slice a2 n2 c2) (by omega))
  clear O0
  have O0 := hide (unhide On)
  clear On
  have On := hide ((unhide O1).put (b := w.heap.size + 1 + 1) (j := 6) (u := .slice a2 n2 c2) (by omega))
  clear O1
  have O1 := hide (unhide On)
  clear On
  have On := hide ((unhide O2).put (b := w.heap.size + 1 + 1) (j := 6) (u := .slice a2 n2 c2) (by omega))
  clear O2
  have O2 := hide (unhide On)
  clear On
  have T := hide (toIntS_any x.o.a x.o.n x.o.c d.o _ (unhide R).ol s3 (unhide R).o)
  clear Cn Rn
  go_wp2_with fail
  refine (unhide T).mono ?_
  rintro e w3 ⟨v, rfl, own, bel⟩
  obtain ⟨a3, n3, c3, rfl⟩ : ∃ a n c, v = .slice a n c := by obtain ⟨a, c, e, _⟩ := own.rd; exact ⟨_, _, _, e⟩
  have Cn := hide ((unhide C).later bel)
  have Rn := hide ((unhide R).later bel)
  have O3 := hide (OwnN.base own (B' := w.heap.size + 3) (unhide C).sz)
  have On := hide ((unhide O0).later bel)
  have A03 : Hid (Ap ⟨a0, n0, c0⟩ ⟨a3, n3, c3⟩) := hide (ap_of (unhide O0) own (Nat.le_refl _))
  clear O0
  have O0 := hide (unhide On)
  clear On
  have On := hide ((unhide O1).later bel)
  have A13 : Hid (Ap ⟨a1, n1, c1⟩ ⟨a3, n3, c3⟩) := hide (ap_of (unhide O1) own (Nat.le_refl _))
  clear O1
  have O1 := hide (unhide On)
  clear On
  have On := hide ((unhide O2).later bel)
  have A23 : Hid (Ap ⟨a2, n2, c2⟩ ⟨a3, n3, c3⟩) := hide (ap_of (unhide O2) own (Nat.le_refl _))
  clear O2
  have O2 := hide (unhide On)
  clear On
  clear own bel T C R
  have o7 := row_o (unhide Cn).out
  have f7 := row_fz (unhide Cn).out 7
  have o8 := row_st (unhide Cn).out
  have f8 := row_fz (unhide Cn).out 8
  have b8 := row_st (unhide Cn).bx
  have C := hide (((unhide Cn).put 7 (.slice a3 n3 c3) (⟨⟨a0, n0, c0⟩, ⟨a1, n1, c1⟩, x.n, x.z, x.v, x.c, ⟨a2, n2, c2⟩, ⟨a3, n3, c3⟩, 0⟩ : Mv) rfl).put 8 (.int .i64 x.st) (⟨⟨a0, n0, c0⟩, ⟨a1, n1, c1⟩, x.n, x.z, x.v, x.c, ⟨a2, n2, c2⟩, ⟨a3, n3, c3⟩, x.st⟩ : Mv) rfl)
  have On := hide (((unhide O0).put (b := w.heap.size + 1 + 1) (j := 7) (u := .slice a3 n3 c3) (by omega)).put (b := w.heap.size + 1 + 1) (j := 8) (u := .int .i64 x.st) (by omega))
  clear O0
  have O0 := hide (unhide On)
  clear On
  have On := hide (((unhide O1).put (b := w.heap.size + 1 + 1) (j := 7) (u := .slice a3 n3 c3) (by omega)).put (b := w.heap.size + 1 + 1) (j := 8) (u := .int .i64 x.st) (by omega))
  clear O1
  have O1 := hide (unhide On)
  clear On
  have On := hide (((unhide O2).put (b := w.heap.size + 1 + 1) (j := 7) (u := .slice a3 n3 c3) (by omega)).put (b := w.heap.size + 1 + 1) (j := 8) (u := .int .i64 x.st) (by omega))
  clear O2
  have O2 := hide (unhide On)
  clear On
  have On := hide (((unhide O3).put (b := w.heap.size + 1 + 1) (j := 7) (u := .slice a3 n3 c3) (by omega)).put (b := w.heap.size + 1 + 1) (j := 8) (u := .int .i64 x.st) (by omega))
  clear O3
  have O3 := hide (unhide On)
  clear On
  clear Cn Rn
  go_wp2_with (first | (refine wpList_load_row rfl 26 _ rfl (w.heap.size + 1 + 1) rfl 26 (Mv.cs (⟨⟨a0, n0, c0⟩, ⟨a1, n1, c1⟩, x.n, x.z, x.v, x.c, ⟨a2, n2, c2⟩, ⟨a3, n3, c3⟩, x.st⟩ : Mv)) (0, 0) _ (unhide C).out Tryz.underlying26 rfl (by kernel_rfl) ?_) | (refine wpList_store_row rfl 26 _ _ rfl (w.heap.size + 1) (Mv.cs (⟨⟨a0, n0, c0⟩, ⟨a1, n1, c1⟩, x.n, x.z, x.v, x.c, ⟨a2, n2, c2⟩, ⟨a3, n3, c3⟩, x.st⟩ : Mv)) rfl rfl 26 zMv.cs (unhide C).re (by kernel_rfl) rfl (Mv.cs_one _) ?_))
  refine bodyPost_ret (results_cell_row (P := Tryz.prog) rfl _ _ (w.heap.size + 1) 26 (Mv.cs (⟨⟨a0, n0, c0⟩, ⟨a1, n1, c1⟩, x.n, x.z, x.v, x.c, ⟨a2, n2, c2⟩, ⟨a3, n3, c3⟩, x.st⟩ : Mv)) (0, 0) _ rfl (unhide C).done.re Tryz.underlying26 rfl (by kernel_rfl)) rfl ?_
  exact ⟨(⟨⟨a0, n0, c0⟩, ⟨a1, n1, c1⟩, x.n, x.z, x.v, x.c, ⟨a2, n2, c2⟩, ⟨a3, n3, c3⟩, x.st⟩ : Mv), rfl, rfl, ⟨(unhide O0).row (by omega) _, (unhide O1).row (by omega) _, (unhide O2).row (by omega) _, (unhide O3).row (by omega) _, unhide A01, unhide A02, unhide A03, unhide A12, unhide A13, unhide A23⟩, (unhide C).done.bel⟩
end Go.Proofs.YtjpbjbnialehbaaGreatDoor

namespace Go.Proofs.YtjpbjbnialehbaaGreatDoor
open Go.ChangeShapes Go.WideShapes Go.ChangeAt Go.RowKit
set_option linter.unusedVariables false
set_option maxRecDepth 8000
set_option linter.unusedSimpArgs false
theorem i64_and65535 (n : Int) : bits .and .i64 n 65535 = n % 65536 := by
  have h127 : (BitVec.ofInt 64 65535).toNat = 2 ^ 16 - 1 := by decide
  have key : (BitVec.ofInt 64 n &&& BitVec.ofInt 64 65535).toNat = (n % ((2 ^ 64 : Nat) : Int)).toNat % 2 ^ 16 := by
    rw [BitVec.toNat_and, BitVec.toNat_ofInt, h127, Nat.and_two_pow_sub_one_eq_mod]
  show IntKind.i64.wrap ((BitVec.ofInt 64 n &&& BitVec.ofInt 64 65535).toNat : Nat) = n % 65536
  rw [key, IntKind.wrap_i64]
  omega
theorem ret_int {k : IntKind} {a b : Int} (h : a = b) : Ending.returned (.int k a) = .returned (.int k b) := by rw [h]
theorem ret_bool {a b : Bool} (h : a = b) : Ending.returned (.bool a) = .returned (.bool b) := by rw [h]
theorem wrapI_any (n : Int) (w : World) : Calls Tryz.prog 55 #[.int .i64 n] w fun e w' => e = .returned (.int .i64 (n % 65536)) ∧ w' = w := by
  go_enter Tryz.func55, Tryz.ntmps55
  go_wp2
  go_ret
  exact ⟨ret_int (i64_and65535 n), rfl⟩
theorem wrapS_any (n : Int) (w : World) : Calls Tryz.prog 50 #[.int .i64 n] w fun e w' => e = .returned (.int .i64 (n % 65536)) ∧ w' = w := by
  go_enter Tryz.func50, Tryz.ntmps50
  go_wp2
  go_ret
  exact ⟨ret_int (i64_and65535 n), rfl⟩
theorem isWord_eq (n : Int) : (n == n % 65536) = inB n 0 65535 := by
  unfold inB
  rw [Bool.eq_iff_iff]
  simp
  omega
theorem isWord_any (n : Int) (w : World) : Calls Tryz.prog 52 #[.int .i64 n] w fun e w' => e = .returned (.bool (inB n 0 65535)) ∧ w' = w := by
  rw [← isWord_eq]
  obtain ⟨q, hq⟩ : ∃ q, n % 65536 = q := ⟨_, rfl⟩
  have W := hide (fun w => hq ▸ wrapI_any n w)
  rw [hq]
  clear hq
  go_enter Tryz.func52, Tryz.ntmps52
  go_wp2_with (go_at_call 55; refine (unhide W _).mono ?_; rintro e w' ⟨rfl, rfl⟩)
  go_ret
  exact ⟨rfl, rfl⟩
/-- Are these words? -/
def wdB (ns : List Int) : Bool := ns.all fun x => inB x 0 65535
theorem wdB_snoc (ns : List Int) (k : Nat) (h : k < ns.length) : wdB (ns.take (k + 1)) = (wdB (ns.take k) && inB (nAt ns k) 0 65535) := by
  rw [take_nAt ns k h]; simp [wdB]
theorem wdB_no (ns : List Int) (k : Nat) (h : k < ns.length) (hb : inB (nAt ns k) 0 65535 = false) : wdB ns = false := by
  unfold wdB
  rw [List.all_eq_false]
  refine ⟨nAt ns k, ?_, by simp [hb]⟩
  unfold nAt
  rw [List.getD_eq_getElem?_getD, List.getElem?_eq_getElem h]
  exact List.getElem_mem _
set_option maxHeartbeats 400000 in
theorem wordsS_any (a : Option Addr) (len cap : Nat) (ns : List Int) (w : World) (hl : ns.length = len) (hm : len ≤ 1099511627776) (hr : RdN w a ns) :
    Calls Tryz.prog 30 #[.slice a len cap] w fun e w' => e = .returned (.bool (wdB ns)) ∧ w' = w := by
  go_enter Tryz.func30, Tryz.ntmps30
  go_wp2
  go_loop [3] (fun i => ∃ k : Nat, k ≤ len ∧ wdB (ns.take k) = true ∧ i = .int .i64 k) (fun i => len - (intOf i).toNat)
  case atStart => exact ⟨0, Nat.zero_le _, rfl, rfl⟩
  case round =>
    obtain ⟨k, hk, hw, rfl⟩ := hrel
    by_cases hlt : k < len
    · rcases hr with rfl | ⟨b, off, rfl, hb, hc⟩
      · simp at hl; omega
      have hcx := hc k (by omega)
      have HW := hide (wdB_snoc ns k (by omega))
      have HN := hide (wdB_no ns k (by omega))
      have HK := hide hw
      clear hc hw
      generalize nAt ns k = x at hcx HW HN ⊢
      have I1 := hide (fun w => in_any x 0 65535 w)
      obtain ⟨q, hq⟩ : ∃ q, inB x 0 65535 = q := ⟨_, rfl⟩
      rw [hq] at HW HN I1
      clear hq
      cases q
      · go_wp2_with (go_at_call 31; refine (unhide I1 _).mono ?_; rintro e w' ⟨rfl, hw'⟩; rw [hw']; clear hw' w')
        go_ret
        exact ⟨ret_bool (unhide HN (by trivial)).symm, rfl⟩
      · go_wp2_with (go_at_call 31; refine (unhide I1 _).mono ?_; rintro e w' ⟨rfl, hw'⟩; rw [hw']; clear hw' w')
        go_round
        case rel => exact ⟨k + 1, by omega, by rw [unhide HW, unhide HK]; rfl, by go_num⟩
        case measure => simp [intOf]; omega
    · have HK := hide hw
      clear hw
      go_wp2
      go_ret
      have := unhide HK
      rw [List.take_of_length_le (by omega)] at this
      exact ⟨ret_bool this.symm, rfl⟩
set_option maxHeartbeats 400000 in
theorem wordsI_any (a : Option Addr) (len cap : Nat) (ns : List Int) (w : World) (hl : ns.length = len) (hm : len ≤ 1099511627776) (hr : RdN w a ns) :
    Calls Tryz.prog 32 #[.slice a len cap] w fun e w' => e = .returned (.bool (wdB ns)) ∧ w' = w := by
  go_enter Tryz.func32, Tryz.ntmps32
  go_wp2
  go_loop [4, 7] (fun _ i => ∃ k : Nat, k ≤ len ∧ wdB (ns.take k) = true ∧ i = .int .i64 k) (fun _ i => len - (intOf i).toNat)
  case atStart => exact ⟨0, Nat.zero_le _, rfl, rfl⟩
  case round =>
    obtain ⟨k, hk, hw, rfl⟩ := hrel
    by_cases hlt : k < len
    · rcases hr with rfl | ⟨b, off, rfl, hb, hc⟩
      · simp at hl; omega
      have hcx := hc k (by omega)
      have HW := hide (wdB_snoc ns k (by omega))
      have HN := hide (wdB_no ns k (by omega))
      have HK := hide hw
      clear hc hw
      generalize nAt ns k = x at hcx HW HN ⊢
      have I1 := hide (fun w => isWord_any x w)
      obtain ⟨q, hq⟩ : ∃ q, inB x 0 65535 = q := ⟨_, rfl⟩
      rw [hq] at HW HN I1
      clear hq
      cases q
      · go_wp2_with (go_at_call 52; refine (unhide I1 _).mono ?_; rintro e w' ⟨rfl, hw'⟩; rw [hw']; clear hw' w')
        go_ret
        exact ⟨ret_bool (unhide HN (by trivial)).symm, rfl⟩
      · go_wp2_with (go_at_call 52; refine (unhide I1 _).mono ?_; rintro e w' ⟨rfl, hw'⟩; rw [hw']; clear hw' w')
        go_round
        case rel => exact ⟨k + 1, by omega, by rw [unhide HW, unhide HK]; rfl, by go_num⟩
        case measure => simp [intOf]; omega
    · have HK := hide hw
      clear hw
      go_wp2
      go_ret
      have := unhide HK
      rw [List.take_of_length_le (by omega)] at this
      exact ⟨ret_bool this.symm, rfl⟩
/-- Two machines in boxes. -/
structure Tw (w wr : World) (x y : Mv) : Prop where
  bx : wr.heap[w.heap.size]? = some (.cells x.cs 26 (0, 0))
  by' : wr.heap[w.heap.size + 1]? = some (.cells y.cs 26 (0, 0))
  bel : Below w.heap.size w wr
theorem Tw.later {w wr w' : World} {x y : Mv} (h : Tw w wr x y) (hb : Below wr.heap.size wr w') : Tw w w' x y :=
  ⟨row_lat h.bx hb, row_lat h.by' hb, h.bel.trans (hb.mono (by have := h.bel.size; omega))⟩
theorem tw_new (w : World) (x y : Mv) : Tw w ((w.alloc (.cells x.cs 26)).alloc (.cells y.cs 26)) x y := by
  have z1 : (w.alloc (.cells x.cs 26)).heap.size = w.heap.size + 1 := by simp
  have a1 := row_lat (heap_alloc_last w (.cells x.cs 26)) ((Below.refl _ _).alloc (Nat.le_refl _) (.cells y.cs 26))
  have a2 := heap_alloc_last (w.alloc (.cells x.cs 26)) (.cells y.cs 26)
  rw [z1] at a2
  exact ⟨a1, a2, ((Below.refl _ _).alloc (Nat.le_refl _) _).alloc (by omega) _⟩
set_option maxHeartbeats 2000000 in
theorem eqM_any (x y : Mv) (d : Md) (w : World) (hf : y.fl = x.fl) (hs : x.small) (hx : RdM w x d) (hy : RdM w y d) : Calls Tryz.prog 14 #[.agg x.cs, .agg y.cs] w fun e w' => e = .returned (.bool true) ∧ Below w.heap.size w w' := by
  have T := hide (tw_new w x y)
  have X := hide (hx.later (unhide T).bel)
  have Y := hide (hy.later (unhide T).bel)
  have p0 : x.cs[0]? = some (.slice x.m.a x.m.n x.m.c) := rfl
  have q0 : y.cs[0]? = some (.slice y.m.a x.m.n y.m.c) := by rw [← hx.ml, hy.ml]; rfl
  have E := hide (eqIntS_same x.m.a y.m.a x.m.n x.m.c y.m.c d.m _ hx.ml (by have := hs.1; omega) (unhide X).m (unhide Y).m)
  have F := hide hf
  have S := hide hs
  clear hf hs hx hy
  go_enter Tryz.func14, Tryz.ntmps14
  go_wp2_with fail
  refine (unhide E).mono ?_
  rintro e w1 ⟨rfl, hb⟩
  have T1 := hide ((unhide T).later hb)
  have X1 := hide ((unhide X).later hb)
  have Y1 := hide ((unhide Y).later hb)
  clear hb T X Y E p0 q0
  have p0 := row_r (unhide T1).bx
  have q0 : w1.cell? ⟨w.heap.size + 1, 1, none⟩ = some (.slice y.r.a x.r.n y.r.c) := by rw [← (unhide X1).rl, (unhide Y1).rl]; exact row_r (unhide T1).by'
  have E := hide (eqIntS_same x.r.a y.r.a x.r.n x.r.c y.r.c d.r _ (unhide X1).rl (by have := (unhide S).2.1; omega) (unhide X1).r (unhide Y1).r)
  go_wp2_with fail
  refine (unhide E).mono ?_
  rintro e w2 ⟨rfl, hb⟩
  have T := hide ((unhide T1).later hb)
  have X := hide ((unhide X1).later hb)
  have Y := hide ((unhide Y1).later hb)
  clear hb T1 X1 Y1 E p0 q0
  have p2 := row_n (unhide T).bx
  have q2 := (row_n (unhide T).by').trans (by rw [fl_n (unhide F)])
  have p3 := row_z (unhide T).bx
  have q3 := (row_z (unhide T).by').trans (by rw [fl_z (unhide F)])
  have p4 := row_v (unhide T).bx
  have q4 := (row_v (unhide T).by').trans (by rw [fl_v (unhide F)])
  have p5 := row_c (unhide T).bx
  have q5 := (row_c (unhide T).by').trans (by rw [fl_c (unhide F)])
  have p0 := row_i (unhide T).bx
  have q0 : w2.cell? ⟨w.heap.size + 1, 6, none⟩ = some (.slice y.i.a x.i.n y.i.c) := by rw [← (unhide X).il, (unhide Y).il]; exact row_i (unhide T).by'
  have E := hide (eqIntS_same x.i.a y.i.a x.i.n x.i.c y.i.c d.i _ (unhide X).il (by have := (unhide S).2.2.1; omega) (unhide X).i (unhide Y).i)
  go_wp2_with fail
  refine (unhide E).mono ?_
  rintro e w3 ⟨rfl, hb⟩
  have T1 := hide ((unhide T).later hb)
  have X1 := hide ((unhide X).later hb)
  have Y1 := hide ((unhide Y).later hb)
  clear hb T X Y E p0 q0 p2 q2 p3 q3 p4 q4 p5 q5
  have p0 := row_o (unhide T1).bx
  have q0 : w3.cell? ⟨w.heap.size + 1, 7, none⟩ = some (.slice y.o.a x.o.n y.o.c) := by rw [← (unhide X1).ol, (unhide Y1).ol]; exact row_o (unhide T1).by'
  have E := hide (eqIntS_same x.o.a y.o.a x.o.n x.o.c y.o.c d.o _ (unhide X1).ol (by have := (unhide S).2.2.2; omega) (unhide X1).o (unhide Y1).o)
  go_wp2_with fail
  refine (unhide E).mono ?_
  rintro e w4 ⟨rfl, hb⟩
  have T := hide ((unhide T1).later hb)
  clear hb T1 X1 Y1 E p0 q0
  have p8 := row_st (unhide T).bx
  have q8 := (row_st (unhide T).by').trans (by rw [fl_st (unhide F)])
  go_wp2
  go_ret
  exact ⟨rfl, (unhide T).bel⟩
end Go.Proofs.YtjpbjbnialehbaaGreatDoor

namespace Go.Proofs.YtjpbjbnialehbaaGreatDoor
open Go.ChangeShapes Go.WideShapes Go.ChangeAt Go.RowKit
set_option linter.unusedVariables false
set_option maxRecDepth 8000
set_option linter.unusedSimpArgs false
/-- Is the machine right? -/
def Md.ok (d : Md) (st : Int) : Bool :=
  ((d.m.length : Int) == 256) && (wdB d.m && (((d.r.length : Int) == 8) && (wdB d.r && (decide ((d.i.length : Int) ≤ 50) && (wdB d.i && (decide ((d.o.length : Int) ≤ 50) && (wdB d.o && inB st 0 2)))))))
set_option maxHeartbeats 4000000 in
theorem okS_any (x : Mv) (d : Md) (w : World) (hs : x.small) (hx : RdM w x d) : Calls Tryz.prog 10 #[.agg x.cs] w fun e w' => e = .returned (.bool (d.ok x.st)) ∧ Below w.heap.size w w' := by
  have HB := hide ((Below.refl w.heap.size w).alloc (Nat.le_refl _) (.cells x.cs 26))
  have X := hide (hx.later (unhide HB))
  have W2 := hide (wordsS_any x.m.a x.m.n x.m.c d.m _ hx.ml (by have := hs.1; omega) (unhide X).m)
  have W4 := hide (wordsS_any x.r.a x.r.n x.r.c d.r _ hx.rl (by have := hs.2.1; omega) (unhide X).r)
  have W6 := hide (wordsS_any x.i.a x.i.n x.i.c d.i _ hx.il (by have := hs.2.2.1; omega) (unhide X).i)
  have W8 := hide (wordsS_any x.o.a x.o.n x.o.c d.o _ hx.ol (by have := hs.2.2.2; omega) (unhide X).o)
  have W9 := hide (fun w => in_any x.st 0 2 w)
  have c0 : x.cs[0]? = some (.slice x.m.a x.m.n x.m.c) := rfl
  have c1 : x.cs[1]? = some (.slice x.r.a x.r.n x.r.c) := rfl
  have c6 : x.cs[6]? = some (.slice x.i.a x.i.n x.i.c) := rfl
  have c7 : x.cs[7]? = some (.slice x.o.a x.o.n x.o.c) := rfl
  have c8 : x.cs[8]? = some (.int .i64 x.st) := rfl
  unfold Md.ok
  rw [hx.ml, hx.rl, hx.il, hx.ol]
  clear hx hs X
  generalize wdB d.m = b2 at W2 ⊢
  generalize wdB d.r = b4 at W4 ⊢
  generalize wdB d.i = b6 at W6 ⊢
  generalize wdB d.o = b8 at W8 ⊢
  generalize inB x.st 0 2 = b9 at W9 ⊢
  cases h1 : ((x.m.n : Int) == 256)
  · go_enter Tryz.func10, Tryz.ntmps10
    go_wp2
    go_ret
    exact ⟨rfl, unhide HB⟩
  cases b2
  · go_enter Tryz.func10, Tryz.ntmps10
    go_wp2_with (first | (go_at_call_of 30 (Value.slice x.m.a x.m.n x.m.c); refine (unhide W2).mono ?_; rintro e w' ⟨rfl, rfl⟩))
    go_ret
    exact ⟨rfl, unhide HB⟩
  cases h3 : ((x.r.n : Int) == 8)
  · go_enter Tryz.func10, Tryz.ntmps10
    go_wp2_with (first | (go_at_call_of 30 (Value.slice x.m.a x.m.n x.m.c); refine (unhide W2).mono ?_; rintro e w' ⟨rfl, rfl⟩))
    go_ret
    exact ⟨rfl, unhide HB⟩
  cases b4
  · go_enter Tryz.func10, Tryz.ntmps10
    go_wp2_with (first | (go_at_call_of 30 (Value.slice x.m.a x.m.n x.m.c); refine (unhide W2).mono ?_; rintro e w' ⟨rfl, rfl⟩) | (go_at_call_of 30 (Value.slice x.r.a x.r.n x.r.c); refine (unhide W4).mono ?_; rintro e w' ⟨rfl, rfl⟩))
    go_ret
    exact ⟨rfl, unhide HB⟩
  cases h5 : decide ((x.i.n : Int) ≤ 50)
  · go_enter Tryz.func10, Tryz.ntmps10
    go_wp2_with (first | (go_at_call_of 30 (Value.slice x.m.a x.m.n x.m.c); refine (unhide W2).mono ?_; rintro e w' ⟨rfl, rfl⟩) | (go_at_call_of 30 (Value.slice x.r.a x.r.n x.r.c); refine (unhide W4).mono ?_; rintro e w' ⟨rfl, rfl⟩))
    go_ret
    exact ⟨rfl, unhide HB⟩
  cases b6
  · go_enter Tryz.func10, Tryz.ntmps10
    go_wp2_with (first | (go_at_call_of 30 (Value.slice x.m.a x.m.n x.m.c); refine (unhide W2).mono ?_; rintro e w' ⟨rfl, rfl⟩) | (go_at_call_of 30 (Value.slice x.r.a x.r.n x.r.c); refine (unhide W4).mono ?_; rintro e w' ⟨rfl, rfl⟩) | (go_at_call_of 30 (Value.slice x.i.a x.i.n x.i.c); refine (unhide W6).mono ?_; rintro e w' ⟨rfl, rfl⟩))
    go_ret
    exact ⟨rfl, unhide HB⟩
  cases h7 : decide ((x.o.n : Int) ≤ 50)
  · go_enter Tryz.func10, Tryz.ntmps10
    go_wp2_with (first | (go_at_call_of 30 (Value.slice x.m.a x.m.n x.m.c); refine (unhide W2).mono ?_; rintro e w' ⟨rfl, rfl⟩) | (go_at_call_of 30 (Value.slice x.r.a x.r.n x.r.c); refine (unhide W4).mono ?_; rintro e w' ⟨rfl, rfl⟩) | (go_at_call_of 30 (Value.slice x.i.a x.i.n x.i.c); refine (unhide W6).mono ?_; rintro e w' ⟨rfl, rfl⟩))
    go_ret
    exact ⟨rfl, unhide HB⟩
  cases b8
  · go_enter Tryz.func10, Tryz.ntmps10
    go_wp2_with (first | (go_at_call_of 30 (Value.slice x.m.a x.m.n x.m.c); refine (unhide W2).mono ?_; rintro e w' ⟨rfl, rfl⟩) | (go_at_call_of 30 (Value.slice x.r.a x.r.n x.r.c); refine (unhide W4).mono ?_; rintro e w' ⟨rfl, rfl⟩) | (go_at_call_of 30 (Value.slice x.i.a x.i.n x.i.c); refine (unhide W6).mono ?_; rintro e w' ⟨rfl, rfl⟩) | (go_at_call_of 30 (Value.slice x.o.a x.o.n x.o.c); refine (unhide W8).mono ?_; rintro e w' ⟨rfl, rfl⟩))
    go_ret
    exact ⟨rfl, unhide HB⟩
  cases b9
  · go_enter Tryz.func10, Tryz.ntmps10
    go_wp2_with (first | (go_at_call_of 30 (Value.slice x.m.a x.m.n x.m.c); refine (unhide W2).mono ?_; rintro e w' ⟨rfl, rfl⟩) | (go_at_call_of 30 (Value.slice x.r.a x.r.n x.r.c); refine (unhide W4).mono ?_; rintro e w' ⟨rfl, rfl⟩) | (go_at_call_of 30 (Value.slice x.i.a x.i.n x.i.c); refine (unhide W6).mono ?_; rintro e w' ⟨rfl, rfl⟩) | (go_at_call_of 30 (Value.slice x.o.a x.o.n x.o.c); refine (unhide W8).mono ?_; rintro e w' ⟨rfl, rfl⟩) | (go_at_call 31; refine (unhide W9 _).mono ?_; rintro e w' ⟨rfl, rfl⟩))
    go_ret
    exact ⟨rfl, unhide HB⟩
  go_enter Tryz.func10, Tryz.ntmps10
  go_wp2_with (first | (go_at_call_of 30 (Value.slice x.m.a x.m.n x.m.c); refine (unhide W2).mono ?_; rintro e w' ⟨rfl, rfl⟩) | (go_at_call_of 30 (Value.slice x.r.a x.r.n x.r.c); refine (unhide W4).mono ?_; rintro e w' ⟨rfl, rfl⟩) | (go_at_call_of 30 (Value.slice x.i.a x.i.n x.i.c); refine (unhide W6).mono ?_; rintro e w' ⟨rfl, rfl⟩) | (go_at_call_of 30 (Value.slice x.o.a x.o.n x.o.c); refine (unhide W8).mono ?_; rintro e w' ⟨rfl, rfl⟩) | (go_at_call 31; refine (unhide W9 _).mono ?_; rintro e w' ⟨rfl, rfl⟩))
  go_ret
  exact ⟨rfl, unhide HB⟩
end Go.Proofs.YtjpbjbnialehbaaGreatDoor

namespace Go.Proofs.YtjpbjbnialehbaaGreatDoor
open Go.ChangeShapes Go.WideShapes Go.ChangeAt Go.RowKit
set_option linter.unusedVariables false
set_option maxRecDepth 8000
set_option linter.unusedSimpArgs false
set_option maxHeartbeats 4000000 in
theorem okI_any (x : Mv) (d : Md) (w : World) (hs : x.small) (hx : RdM w x d) : Calls Tryz.prog 11 #[.agg x.cs] w fun e w' => e = .returned (.bool (d.ok x.st)) ∧ Below w.heap.size w w' := by
  have HB := hide ((Below.refl w.heap.size w).alloc (Nat.le_refl _) (.cells x.cs 26))
  have X := hide (hx.later (unhide HB))
  have W0 := hide (wordsI_any x.m.a x.m.n x.m.c d.m _ hx.ml (by have := hs.1; omega) (unhide X).m)
  have W1 := hide (wordsI_any x.r.a x.r.n x.r.c d.r _ hx.rl (by have := hs.2.1; omega) (unhide X).r)
  have W2 := hide (wordsI_any x.i.a x.i.n x.i.c d.i _ hx.il (by have := hs.2.2.1; omega) (unhide X).i)
  have W3 := hide (wordsI_any x.o.a x.o.n x.o.c d.o _ hx.ol (by have := hs.2.2.2; omega) (unhide X).o)
  have c0 : x.cs[0]? = some (.slice x.m.a x.m.n x.m.c) := rfl
  have c1 : x.cs[1]? = some (.slice x.r.a x.r.n x.r.c) := rfl
  have c6 : x.cs[6]? = some (.slice x.i.a x.i.n x.i.c) := rfl
  have c7 : x.cs[7]? = some (.slice x.o.a x.o.n x.o.c) := rfl
  have c8 : x.cs[8]? = some (.int .i64 x.st) := rfl
  unfold Md.ok
  rw [hx.ml, hx.rl, hx.il, hx.ol]
  clear hx hs X
  generalize wdB d.m = b0 at W0 ⊢
  generalize wdB d.r = b1 at W1 ⊢
  generalize wdB d.i = b2 at W2 ⊢
  generalize wdB d.o = b3 at W3 ⊢
  by_cases h1 : (x.m.n : Int) = 256
  rotate_left
  · rw [show ((x.m.n : Int) == 256) = false by simpa using h1]
    go_enter Tryz.func11, Tryz.ntmps11
    go_wp2
    go_ret
    exact ⟨ret_bool (by simp), unhide HB⟩
  rw [show ((x.m.n : Int) == 256) = true by simpa using h1]
  have g1 : 256 ≤ x.m.n ∧ x.m.n ≤ 256 := by omega
  obtain ⟨g1a, g1b⟩ := g1
  clear h1
  by_cases h2 : (x.r.n : Int) = 8
  rotate_left
  · rw [show ((x.r.n : Int) == 8) = false by simpa using h2]
    go_enter Tryz.func11, Tryz.ntmps11
    go_wp2
    go_ret
    exact ⟨ret_bool (by simp), unhide HB⟩
  rw [show ((x.r.n : Int) == 8) = true by simpa using h2]
  have g2 : 8 ≤ x.r.n ∧ x.r.n ≤ 8 := by omega
  obtain ⟨g2a, g2b⟩ := g2
  clear h2
  by_cases h3 : (x.i.n : Int) ≤ 50
  rotate_left
  · rw [decide_eq_false h3]
    go_enter Tryz.func11, Tryz.ntmps11
    go_wp2
    go_ret
    exact ⟨ret_bool (by simp), unhide HB⟩
  rw [decide_eq_true h3]
  by_cases h4 : (x.o.n : Int) ≤ 50
  rotate_left
  · rw [decide_eq_false h4]
    go_enter Tryz.func11, Tryz.ntmps11
    go_wp2
    go_ret
    exact ⟨ret_bool (by simp), unhide HB⟩
  rw [decide_eq_true h4]
  obtain ⟨B, hB⟩ : ∃ B : Nat → Bool, B = fun j => if j = 0 then b0 else if j = 1 then b1 else if j = 2 then b2 else b3 := ⟨_, rfl⟩
  have HBB := hide hB
  clear hB
  have ix0 : ∀ w, (Instr.index 53 (.agg #[Value.slice x.m.a x.m.n x.m.c, Value.slice x.r.a x.r.n x.r.c, Value.slice x.i.a x.i.n x.i.c, Value.slice x.o.a x.o.n x.o.c]) (.int .i64 0)).run Tryz.prog w = .ok (.slice x.m.a x.m.n x.m.c) w := fun w => by kernel_rfl
  have ix1 : ∀ w, (Instr.index 53 (.agg #[Value.slice x.m.a x.m.n x.m.c, Value.slice x.r.a x.r.n x.r.c, Value.slice x.i.a x.i.n x.i.c, Value.slice x.o.a x.o.n x.o.c]) (.int .i64 1)).run Tryz.prog w = .ok (.slice x.r.a x.r.n x.r.c) w := fun w => by kernel_rfl
  have ix2 : ∀ w, (Instr.index 53 (.agg #[Value.slice x.m.a x.m.n x.m.c, Value.slice x.r.a x.r.n x.r.c, Value.slice x.i.a x.i.n x.i.c, Value.slice x.o.a x.o.n x.o.c]) (.int .i64 2)).run Tryz.prog w = .ok (.slice x.i.a x.i.n x.i.c) w := fun w => by kernel_rfl
  have ix3 : ∀ w, (Instr.index 53 (.agg #[Value.slice x.m.a x.m.n x.m.c, Value.slice x.r.a x.r.n x.r.c, Value.slice x.i.a x.i.n x.i.c, Value.slice x.o.a x.o.n x.o.c]) (.int .i64 3)).run Tryz.prog w = .ok (.slice x.o.a x.o.n x.o.c) w := fun w => by kernel_rfl
  go_enter Tryz.func11, Tryz.ntmps11
  go_wp2
  go_loop [4, 36] (fun _ i => ∃ k : Nat, k ≤ 4 ∧ i = .int .i64 k ∧ ∀ j, j < k → B j = true) (fun _ i => 4 - (intOf i).toNat)
  case atStart => exact ⟨0, by omega, rfl, fun j h => by omega⟩
  case round =>
    obtain ⟨k, hk, rfl, hall⟩ := hrel
    by_cases hlt : k < 4
    · have HA := hide hall
      clear hall
      obtain rfl | rfl | rfl | rfl : k = 0 ∨ k = 1 ∨ k = 2 ∨ k = 3 := by omega
      · have hBk : Hid (B 0 = b0) := by rw [show B = _ from unhide HBB]; rfl
        cases b0
        · go_wp2_with (go_at_call 32; refine (unhide W0).mono ?_; rintro e w' ⟨rfl, rfl⟩)
          go_ret
          exact ⟨ret_bool (by simp), unhide HB⟩
        · go_wp2_with (go_at_call 32; refine (unhide W0).mono ?_; rintro e w' ⟨rfl, rfl⟩)
          go_round
          case rel => exact ⟨1, by omega, by go_num, fun j hj => by
            by_cases e : j = 0
            · rw [e]; exact unhide hBk
            · exact unhide HA j (by omega)⟩
          case measure => simp [intOf]
      · have hBk : Hid (B 1 = b1) := by rw [show B = _ from unhide HBB]; rfl
        cases b1
        · go_wp2_with (go_at_call 32; refine (unhide W1).mono ?_; rintro e w' ⟨rfl, rfl⟩)
          go_ret
          exact ⟨ret_bool (by simp), unhide HB⟩
        · go_wp2_with (go_at_call 32; refine (unhide W1).mono ?_; rintro e w' ⟨rfl, rfl⟩)
          go_round
          case rel => exact ⟨2, by omega, by go_num, fun j hj => by
            by_cases e : j = 1
            · rw [e]; exact unhide hBk
            · exact unhide HA j (by omega)⟩
          case measure => simp [intOf]
      · have hBk : Hid (B 2 = b2) := by rw [show B = _ from unhide HBB]; rfl
        cases b2
        · go_wp2_with (go_at_call 32; refine (unhide W2).mono ?_; rintro e w' ⟨rfl, rfl⟩)
          go_ret
          exact ⟨ret_bool (by simp), unhide HB⟩
        · go_wp2_with (go_at_call 32; refine (unhide W2).mono ?_; rintro e w' ⟨rfl, rfl⟩)
          go_round
          case rel => exact ⟨3, by omega, by go_num, fun j hj => by
            by_cases e : j = 2
            · rw [e]; exact unhide hBk
            · exact unhide HA j (by omega)⟩
          case measure => simp [intOf]
      · have hBk : Hid (B 3 = b3) := by rw [show B = _ from unhide HBB]; rfl
        cases b3
        · go_wp2_with (go_at_call 32; refine (unhide W3).mono ?_; rintro e w' ⟨rfl, rfl⟩)
          go_ret
          exact ⟨ret_bool (by simp), unhide HB⟩
        · go_wp2_with (go_at_call 32; refine (unhide W3).mono ?_; rintro e w' ⟨rfl, rfl⟩)
          go_round
          case rel => exact ⟨4, by omega, by go_num, fun j hj => by
            by_cases e : j = 3
            · rw [e]; exact unhide hBk
            · exact unhide HA j (by omega)⟩
          case measure => simp [intOf]
    · obtain rfl : k = 4 := by omega
      have e := unhide HBB
      have a0 := hall 0 (by omega)
      have a1 := hall 1 (by omega)
      have a2 := hall 2 (by omega)
      have a3 := hall 3 (by omega)
      rw [show B = _ from e] at a0 a1 a2 a3
      simp only [↓reduceIte, Nat.reduceEqDiff, Nat.one_ne_zero] at a0 a1 a2 a3
      subst a0 a1 a2 a3
      clear e hall HBB
      by_cases s0 : x.st = 0
      · have e0 : (x.st == 0) = true := by simpa using s0
        have F : inB x.st 0 2 = true := by unfold inB; simp; omega
        have HF := hide F
        clear F s0
        go_wp2
        go_ret
        exact ⟨ret_bool (by simp [unhide HF]), unhide HB⟩
      have e0 : (x.st == 0) = false := by simpa using s0
      by_cases s1 : x.st = 1
      · have e1 : (x.st == 1) = true := by simpa using s1
        have F : inB x.st 0 2 = true := by unfold inB; simp; omega
        have HF := hide F
        clear F s0 s1
        go_wp2
        go_ret
        exact ⟨ret_bool (by simp [unhide HF]), unhide HB⟩
      have e1 : (x.st == 1) = false := by simpa using s1
      have F : inB x.st 0 2 = (x.st == 2) := by unfold inB; rw [Bool.eq_iff_iff]; simp; omega
      cases e2 : (x.st == 2)
      all_goals rw [e2] at F
      all_goals have HF := hide F
      all_goals clear F s0 s1
      · go_wp2
        go_ret
        exact ⟨ret_bool (by simp [unhide HF]), unhide HB⟩
      · go_wp2
        go_ret
        exact ⟨ret_bool (by simp [unhide HF]), unhide HB⟩
end Go.Proofs.YtjpbjbnialehbaaGreatDoor

namespace Go.Proofs.YtjpbjbnialehbaaGreatDoor
open Go.ChangeShapes Go.WideShapes Go.ChangeAt Go.RowKit
set_option linter.unusedVariables false
set_option maxRecDepth 8000
set_option linter.unusedSimpArgs false
/-- What came in, in its box, while the law goes on. -/
structure Lw (W wr : World) (x : Mv) (e : Md) : Prop where
  bx : wr.heap[W.heap.size]? = some (.cells x.cs 31 (0, 0))
  rd : RdM wr x e
  bel : Below W.heap.size W wr
theorem Lw.later {W wr w' : World} {x : Mv} {e : Md} (h : Lw W wr x e) (hb : Below wr.heap.size wr w') : Lw W w' x e :=
  ⟨row_lat h.bx hb, h.rd.later hb, h.bel.trans (hb.mono (by have := h.bel.size; omega))⟩
theorem Lw.lt {W wr : World} {x : Mv} {e : Md} (h : Lw W wr x e) : W.heap.size < wr.heap.size := row_lt h.bx
theorem lw_new {W : World} {x : Mv} {e : Md} (h : RdM W x e) : Lw W (W.alloc (.cells x.cs 31)) x e :=
  ⟨heap_alloc_last W _, h.later ((Below.refl _ _).alloc (Nat.le_refl _) _), (Below.refl _ _).alloc (Nat.le_refl _) _⟩
theorem below_new (w : World) (o : Obj) : Below w.heap.size w (w.alloc o) := (Below.refl _ _).alloc (Nat.le_refl _) _
theorem below_drew {w : World} : Below w.heap.size w w.drew := ⟨rfl, rfl, rfl, Nat.le_refl _, fun _ _ => rfl⟩
theorem wpList_store_new {P : Program} {ops : Array Oper} {rest : List Oper} {o : Oper} {a : Act} {w : World} {Q : Exit → Act → World → Prop} (hgd : o.guard = none) (ty : TypeId) (x y : Operand) (ho : o.op = .store ty x y)
    (cells : Array Value) (hx : a.eval x = .pointer (some ⟨w.heap.size, 0, none⟩)) (hy : a.eval y = .agg cells) (old : Array Value) (hi : (P.info? ty).map (·.size) = some cells.size)
    (hold : old.size = cells.size) (h1 : cells.all (·.oneCell') = true) (h : wpList P ops Q rest (a.put o.dst undef) (w.alloc (.cells cells ty))) : wpList P ops Q (o :: rest) a (w.alloc (.cells old ty)) :=
  wpList_store_row hgd ty x y ho w.heap.size cells hx hy ty old (heap_alloc_last w _) hi hold h1 (by rw [World.setRow_alloc_new]; exact h)
/-- A load of a whole row yields it in every world that keeps the row. -/
theorem yields_load {P : Program} {ops : Array Oper} {S : World → Prop} {o : Oper} {a : Act} (hgd : o.guard = none) (ty : TypeId) (x : Operand) (ho : o.op = .load ty x) (g : Nat) (hx : a.eval x = .pointer (some ⟨g, 0, none⟩)) (t : TypeId) (cs : Array Value) (d : TypeDesc)
    (hS : ∀ w, S w → w.heap[g]? = some (.cells cs t (0, 0))) (hu : P.underlying ty = some d) (hd : (match d with | .struct _ | .array _ _ => true | _ => false) = true) (hi : (P.info? ty).map (·.size) = some cs.size) : YieldsIf P ops S o (.agg cs) a := by
  refine .inl ⟨by simp [Region.wanted, hgd], fun w hw => ?_⟩
  simp only [execOp, ho, hx, Instr.loadAt, Instr.sureAddr, Sem.run_bind, Sem.run_pure, Result.andThen_ok, run_loadVar_row w g t ty cs (0, 0) d (hS w hw) hu hd hi]
end Go.Proofs.YtjpbjbnialehbaaGreatDoor

namespace Go.Proofs.YtjpbjbnialehbaaGreatDoor
open Go.ChangeShapes Go.WideShapes Go.ChangeAt Go.RowKit
set_option linter.unusedVariables false
set_option maxRecDepth 8000
set_option linter.unusedSimpArgs false
theorem info_parts {P : Program} {t : TypeId} {z : Option Value} {s b : Nat} (h : (P.info? t).map (fun i => (i.zero, i.size, i.bytes)) = some (z, s, b)) : ∃ i, P.info? t = some i ∧ i.zero = z ∧ i.size = s ∧ i.bytes = b := by
  cases hq : P.info? t with
  | none => simp [hq] at h
  | some i => simp [hq] at h; exact ⟨i, rfl, h⟩
/-- No address, no room. -/
def Sl.nz (s : Sl) : Prop := s.a = none → s.c = 0
def Mv.nz (x : Mv) : Prop := x.m.nz ∧ x.r.nz ∧ x.i.nz ∧ x.o.nz
theorem OwnN.nz {w : World} {B : Nat} {s : Sl} {ns : List Int} (h : OwnN w B s.v ns) : s.nz := by
  obtain ⟨a, c, e, _, _, _, _, h0⟩ := h.rd
  obtain ⟨sa, sn, sc⟩ := s
  unfold Sl.v at e
  simp at e
  obtain ⟨rfl, _, rfl⟩ := e
  exact h0
theorem OwnM.nz {w : World} {B : Nat} {x : Mv} {d : Md} (h : OwnM w B x d) : x.nz := ⟨h.m.nz, h.r.nz, h.i.nz, h.o.nz⟩
theorem rdN_cells {w : World} {ad : Addr} {ns : List Int} (h : RdN w (some ad) ns) : ∀ j u, (cellsN ns)[j]? = some u → w.cell? (ad.add j) = some u := by
  intro j u hu
  simp only [cellsN, List.getElem?_map, Option.map_eq_some_iff] at hu
  obtain ⟨y, hy, rfl⟩ := hu
  have hj := (List.getElem?_eq_some_iff.1 hy).1
  rcases h with rfl | ⟨b, off, ha, hb, hc⟩
  · simp at hj
  · cases ha
    have := hc j hj
    have e : nAt ns j = y := by unfold nAt; rw [List.getD_eq_getElem?_getD, hy]; rfl
    rw [e] at this
    unfold Addr.add
    by_cases h0 : j = 0
    · subst h0; simpa using this
    · simpa [h0] using this
/-- 'append(v, s...)', v owned, s whatever is read: as one law for the walk. -/
theorem wpList_app {w : World} {ops : Array Oper} {rest : List Oper} {o : Oper} {a : Act} {Q : Exit → Act → World → Prop} (hgd : o.guard = none) (p q : Operand) (ho : o.op = .call { callee := .builtin .append, args := #[p, q], argTypes := #[24, 24] })
    (B : Nat) (v : Value) (xs : List Int) (hs : a.eval p = v) (hown : OwnN w B v xs) (s : Sl) (ns : List Int) (hx : a.eval q = .slice s.a s.n s.c) (hr : RdN w s.a ns) (hl : ns.length = s.n) (hz : s.nz) (hm : xs.length + s.n ≤ 4194304) (hB : B ≤ w.heap.size)
    (h : ∀ v' w', OwnN w' B v' (xs ++ ns) → w.grownBy w' v.ownBlock → wpList Tryz.prog ops Q rest (a.put o.dst v') w') : wpList Tryz.prog ops Q (o :: rest) a w := by
  obtain ⟨i0, hi, hz0, hz1, hz2⟩ := info_parts info3
  obtain ⟨sa, sn, sc⟩ := s
  simp only at hx hr hl hm
  cases sa with
  | none =>
    have h0 : ns = [] := by
      rcases hr with h0 | ⟨_, _, e, _⟩
      · exact h0
      · cases e
    subst h0
    have hn : sn = 0 := by simp at hl; omega
    have hc : sc = 0 := hz rfl
    subst hn hc
    refine wpList_append_own_none hgd p q 24 ho B 3 i0 1 Tryz.underlying24 hi v xs.length (cellsN xs) hs hown hx ?_
    exact h v w (by rw [List.append_nil]; exact hown) (World.grownBy.refl _ _)
  | some ad =>
    refine wpList_append_own _ hgd p q 24 ho B 3 i0 (.int .i64 0) 1 8 Tryz.underlying24 hi hz0 hz1 hz2 rfl (by decide) v xs.length (cellsN xs) hs hown ad sn sc (cellsN ns) hx (by rw [cellsN_length]; omega) (rdN_cells hr) (cellsN_one _) (by unfold maxLen; omega) (by omega) hB ?_
    intro v' w' ho' hg _
    refine h v' w' ?_ hg
    unfold OwnN
    rw [cellsN_append, List.length_append, hl]
    exact ho'
theorem below_grown {w w' : World} (hg : w.grownBy w' none) : Below w.heap.size w w' := ⟨hg.os, hg.tape, hg.output, hg.size, fun k hk => hg.block k hk (by simp)⟩
set_option maxHeartbeats 1000000 in
theorem copyN_any (s : Sl) (ns : List Int) (w : World) (hr : RdN w s.a ns) (hl : ns.length = s.n) (hz : s.nz) (hm : s.n ≤ 1048576) :
    Calls Tryz.prog 43 #[.slice s.a s.n s.c] w fun e w' => ∃ v, e = .returned v ∧ OwnN w' w.heap.size v ns ∧ Below w.heap.size w w' := by
  go_enter Tryz.func43, Tryz.ntmps43
  go_wp2_with (at_builtin; refine wpList_app rfl _ _ rfl w.heap.size (.slice none 0 0) [] rfl (ownN_none _ _) s ns rfl hr hl hz (by simp; omega) (Nat.le_refl _) ?_; intro v' w' ho hg; have HO := hide ho; have HG := hide hg; clear ho hg)
  go_ret
  exact ⟨_, rfl, unhide HO, below_grown (unhide HG)⟩
/-- While the program copies a machine: its box, the answer's place. -/
structure Cc (w wr : World) (x : Mv) : Prop where
  bx : wr.heap[w.heap.size]? = some (.cells x.cs 26 (0, 0))
  re : wr.heap[w.heap.size + 1]? = some (.cells zMv.cs 26 (0, 0))
  bel : Below w.heap.size w wr
  sz : w.heap.size + 2 ≤ wr.heap.size
section
variable {w wr w' : World} {x : Mv}
theorem Cc.later (h : Cc w wr x) (hb : Below wr.heap.size wr w') : Cc w w' x :=
  ⟨row_lat h.bx hb, row_lat h.re hb, h.bel.trans (hb.mono (by have := h.bel.size; omega)), Nat.le_trans h.sz hb.size⟩
theorem Cc.put (h : Cc w wr x) (j : Nat) (v : Value) (x' : Mv) (he : x.cs.setIfInBounds j v = x'.cs) : Cc w (wr.setCell ⟨w.heap.size, j, none⟩ v) x' :=
  ⟨row_put h.bx j v x' he, row_keep h.re (by omega), Below.drop h.bel (by omega), by simpa using h.sz⟩
theorem cc_new0 (w : World) (x : Mv) : Cc w ((w.alloc (.cells x.cs 26)).alloc (.cells zMv.cs 26)) x := by
  have z1 : (w.alloc (.cells x.cs 26)).heap.size = w.heap.size + 1 := by simp
  have a1 := row_lat (heap_alloc_last w (.cells x.cs 26)) (below_new _ (.cells zMv.cs 26))
  have a2 := heap_alloc_last (w.alloc (.cells x.cs 26)) (.cells zMv.cs 26)
  rw [z1] at a2
  exact ⟨a1, a2, ((Below.refl _ _).alloc (Nat.le_refl _) _).alloc (by omega) _, by simp⟩
theorem cc_new (w : World) (x : Mv) : Cc w ((w.alloc (.cells x.cs 26)).alloc (.cells #[Value.slice none 0 0, Value.slice none 0 0, Value.bool false, Value.bool false, Value.bool false, Value.bool false, Value.slice none 0 0, Value.slice none 0 0, Value.int .i64 0] 26)) x := cc_new0 w x
theorem Cc.done {x : Mv} (h : Cc w wr x) : Cd w (wr.setRow (w.heap.size + 1) x.cs) x :=
  ⟨setRow_heap wr _ zMv.cs _ 26 _ h.re, below_setRow h.bel (by omega) _⟩
theorem RdM.setB {x : Mv} {d : Md} {b : Nat} (h : RdM wr x d) (hw : RdM w x d) (hb : w.heap.size ≤ b) (j : Nat) (v : Value) : RdM (wr.setCell ⟨b, j, none⟩ v) x d := by
  have key : ∀ {a : Option Addr} {ns : List Int}, RdN w a ns → ns = [] ∨ ∀ ad, a = some ad → ad.block ≠ b := fun hr => by
    rcases hr with h0 | ⟨b', off, rfl, hb', _⟩
    · exact .inl h0
    · exact .inr fun ad e => by cases e; show b' ≠ b; omega
  exact ⟨h.m.put (key hw.m), h.r.put (key hw.r), h.i.put (key hw.i), h.o.put (key hw.o), h.ml, h.rl, h.il, h.ol⟩
end
set_option maxHeartbeats 4000000 in
theorem copyM_any (x : Mv) (d : Md) (w : World) (hs : x.small) (hz : x.nz) (hr : RdM w x d) : Calls Tryz.prog 22 #[.agg x.cs] w fun e w' => ∃ y : Mv, e = .returned (.agg y.cs) ∧ y.fl = x.fl ∧ OwnM w' (w.heap.size + 2) y d ∧ Below w.heap.size w w' := by
  obtain ⟨s0, s1, s2, s3⟩ := hs
  have NZ := hide hz
  have C := hide (cc_new w x)
  have HR := hide hr
  have R := hide (hr.later (unhide C).bel)
  have q0 : x.cs[0]? = some (.slice x.m.a x.m.n x.m.c) := rfl
  have T := hide (copyN_any x.m d.m _ (unhide R).m hr.ml hz.1 s0)
  clear hr hz
  go_enter Tryz.func22, Tryz.ntmps22
  go_wp2_with fail
  refine (unhide T).mono ?_
  rintro e w0 ⟨v, rfl, own, bel⟩
  obtain ⟨a0, n0, c0, rfl⟩ : ∃ a n c, v = .slice a n c := by obtain ⟨a, c, e, _⟩ := own.rd; exact ⟨_, _, _, e⟩
  have Cn := hide ((unhide C).later bel)
  have Rn := hide ((unhide R).later bel)
  have O0 := hide (OwnN.base own (B' := w.heap.size + 2) (unhide C).sz)
  clear own bel T C R q0
  have o0 := row_m (unhide Cn).bx
  have f0 := row_fz (unhide Cn).bx 0
  have b1 := row_r (unhide Cn).bx
  have C := hide ((unhide Cn).put 0 (.slice a0 n0 c0) (⟨⟨a0, n0, c0⟩, x.r, x.n, x.z, x.v, x.c, x.i, x.o, x.st⟩ : Mv) rfl)
  have R := hide ((unhide Rn).setB (unhide HR) (Nat.le_refl _) 0 (.slice a0 n0 c0))
  have On := hide ((unhide O0).put (b := w.heap.size) (j := 0) (u := .slice a0 n0 c0) (by omega))
  clear O0
  have O0 := hide (unhide On)
  clear On
  have T := hide (copyN_any x.r d.r _ (unhide R).r (unhide R).rl (unhide NZ).2.1 s1)
  clear Cn Rn
  go_wp2_with fail
  refine (unhide T).mono ?_
  rintro e w1 ⟨v, rfl, own, bel⟩
  obtain ⟨a1, n1, c1, rfl⟩ : ∃ a n c, v = .slice a n c := by obtain ⟨a, c, e, _⟩ := own.rd; exact ⟨_, _, _, e⟩
  have Cn := hide ((unhide C).later bel)
  have Rn := hide ((unhide R).later bel)
  have O1 := hide (OwnN.base own (B' := w.heap.size + 2) (unhide C).sz)
  have On := hide ((unhide O0).later bel)
  have A01 : Hid (Ap ⟨a0, n0, c0⟩ ⟨a1, n1, c1⟩) := hide (ap_of (unhide O0) own (Nat.le_refl _))
  clear O0
  have O0 := hide (unhide On)
  clear On
  clear own bel T C R
  have o1 := row_r (unhide Cn).bx
  have f1 := row_fz (unhide Cn).bx 1
  have b6 := row_i (unhide Cn).bx
  have C := hide ((unhide Cn).put 1 (.slice a1 n1 c1) (⟨⟨a0, n0, c0⟩, ⟨a1, n1, c1⟩, x.n, x.z, x.v, x.c, x.i, x.o, x.st⟩ : Mv) rfl)
  have R := hide ((unhide Rn).setB (unhide HR) (Nat.le_refl _) 1 (.slice a1 n1 c1))
  have On := hide ((unhide O0).put (b := w.heap.size) (j := 1) (u := .slice a1 n1 c1) (by omega))
  clear O0
  have O0 := hide (unhide On)
  clear On
  have On := hide ((unhide O1).put (b := w.heap.size) (j := 1) (u := .slice a1 n1 c1) (by omega))
  clear O1
  have O1 := hide (unhide On)
  clear On
  have T := hide (copyN_any x.i d.i _ (unhide R).i (unhide R).il (unhide NZ).2.2.1 s2)
  clear Cn Rn
  go_wp2_with fail
  refine (unhide T).mono ?_
  rintro e w2 ⟨v, rfl, own, bel⟩
  obtain ⟨a2, n2, c2, rfl⟩ : ∃ a n c, v = .slice a n c := by obtain ⟨a, c, e, _⟩ := own.rd; exact ⟨_, _, _, e⟩
  have Cn := hide ((unhide C).later bel)
  have Rn := hide ((unhide R).later bel)
  have O2 := hide (OwnN.base own (B' := w.heap.size + 2) (unhide C).sz)
  have On := hide ((unhide O0).later bel)
  have A02 : Hid (Ap ⟨a0, n0, c0⟩ ⟨a2, n2, c2⟩) := hide (ap_of (unhide O0) own (Nat.le_refl _))
  clear O0
  have O0 := hide (unhide On)
  clear On
  have On := hide ((unhide O1).later bel)
  have A12 : Hid (Ap ⟨a1, n1, c1⟩ ⟨a2, n2, c2⟩) := hide (ap_of (unhide O1) own (Nat.le_refl _))
  clear O1
  have O1 := hide (unhide On)
  clear On
  clear own bel T C R
  have o6 := row_i (unhide Cn).bx
  have f6 := row_fz (unhide Cn).bx 6
  have b7 := row_o (unhide Cn).bx
  have C := hide ((unhide Cn).put 6 (.slice a2 n2 c2) (⟨⟨a0, n0, c0⟩, ⟨a1, n1, c1⟩, x.n, x.z, x.v, x.c, ⟨a2, n2, c2⟩, x.o, x.st⟩ : Mv) rfl)
  have R := hide ((unhide Rn).setB (unhide HR) (Nat.le_refl _) 6 (.slice a2 n2 c2))
  have On := hide ((unhide O0).put (b := w.heap.size) (j := 6) (u := .slice a2 n2 c2) (by omega))
  clear O0
  have O0 := hide (unhide On)
  clear On
  have On := hide ((unhide O1).put (b := w.heap.size) (j := 6) (u := .slice a2 n2 c2) (by omega))
  clear O1
  have O1 := hide (unhide On)
  clear On
  have On := hide ((unhide O2).put (b := w.heap.size) (j := 6) (u := .slice a2 n2 c2) (by omega))
  clear O2
  have O2 := hide (unhide On)
  clear On
  have T := hide (copyN_any x.o d.o _ (unhide R).o (unhide R).ol (unhide NZ).2.2.2 s3)
  clear Cn Rn
  go_wp2_with fail
  refine (unhide T).mono ?_
  rintro e w3 ⟨v, rfl, own, bel⟩
  obtain ⟨a3, n3, c3, rfl⟩ : ∃ a n c, v = .slice a n c := by obtain ⟨a, c, e, _⟩ := own.rd; exact ⟨_, _, _, e⟩
  have Cn := hide ((unhide C).later bel)
  have Rn := hide ((unhide R).later bel)
  have O3 := hide (OwnN.base own (B' := w.heap.size + 2) (unhide C).sz)
  have On := hide ((unhide O0).later bel)
  have A03 : Hid (Ap ⟨a0, n0, c0⟩ ⟨a3, n3, c3⟩) := hide (ap_of (unhide O0) own (Nat.le_refl _))
  clear O0
  have O0 := hide (unhide On)
  clear On
  have On := hide ((unhide O1).later bel)
  have A13 : Hid (Ap ⟨a1, n1, c1⟩ ⟨a3, n3, c3⟩) := hide (ap_of (unhide O1) own (Nat.le_refl _))
  clear O1
  have O1 := hide (unhide On)
  clear On
  have On := hide ((unhide O2).later bel)
  have A23 : Hid (Ap ⟨a2, n2, c2⟩ ⟨a3, n3, c3⟩) := hide (ap_of (unhide O2) own (Nat.le_refl _))
  clear O2
  have O2 := hide (unhide On)
  clear On
  clear own bel T C R
  have o7 := row_o (unhide Cn).bx
  have f7 := row_fz (unhide Cn).bx 7
  have C := hide ((unhide Cn).put 7 (.slice a3 n3 c3) (⟨⟨a0, n0, c0⟩, ⟨a1, n1, c1⟩, x.n, x.z, x.v, x.c, ⟨a2, n2, c2⟩, ⟨a3, n3, c3⟩, x.st⟩ : Mv) rfl)
  have On := hide ((unhide O0).put (b := w.heap.size) (j := 7) (u := .slice a3 n3 c3) (by omega))
  clear O0
  have O0 := hide (unhide On)
  clear On
  have On := hide ((unhide O1).put (b := w.heap.size) (j := 7) (u := .slice a3 n3 c3) (by omega))
  clear O1
  have O1 := hide (unhide On)
  clear On
  have On := hide ((unhide O2).put (b := w.heap.size) (j := 7) (u := .slice a3 n3 c3) (by omega))
  clear O2
  have O2 := hide (unhide On)
  clear On
  have On := hide ((unhide O3).put (b := w.heap.size) (j := 7) (u := .slice a3 n3 c3) (by omega))
  clear O3
  have O3 := hide (unhide On)
  clear On
  clear Cn Rn
  go_wp2_with (first | (refine wpList_load_row rfl 26 _ rfl w.heap.size rfl 26 (Mv.cs (⟨⟨a0, n0, c0⟩, ⟨a1, n1, c1⟩, x.n, x.z, x.v, x.c, ⟨a2, n2, c2⟩, ⟨a3, n3, c3⟩, x.st⟩ : Mv)) (0, 0) _ (unhide C).bx Tryz.underlying26 rfl (by kernel_rfl) ?_) | (refine wpList_store_row rfl 26 _ _ rfl (w.heap.size + 1) (Mv.cs (⟨⟨a0, n0, c0⟩, ⟨a1, n1, c1⟩, x.n, x.z, x.v, x.c, ⟨a2, n2, c2⟩, ⟨a3, n3, c3⟩, x.st⟩ : Mv)) rfl rfl 26 zMv.cs (unhide C).re (by kernel_rfl) rfl (Mv.cs_one _) ?_))
  refine bodyPost_ret (results_cell_row (P := Tryz.prog) rfl _ _ (w.heap.size + 1) 26 (Mv.cs (⟨⟨a0, n0, c0⟩, ⟨a1, n1, c1⟩, x.n, x.z, x.v, x.c, ⟨a2, n2, c2⟩, ⟨a3, n3, c3⟩, x.st⟩ : Mv)) (0, 0) _ rfl (unhide C).done.re Tryz.underlying26 rfl (by kernel_rfl)) rfl ?_
  exact ⟨(⟨⟨a0, n0, c0⟩, ⟨a1, n1, c1⟩, x.n, x.z, x.v, x.c, ⟨a2, n2, c2⟩, ⟨a3, n3, c3⟩, x.st⟩ : Mv), rfl, rfl, ⟨(unhide O0).row (by omega) _, (unhide O1).row (by omega) _, (unhide O2).row (by omega) _, (unhide O3).row (by omega) _, unhide A01, unhide A02, unhide A03, unhide A12, unhide A13, unhide A23⟩, (unhide C).done.bel⟩
end Go.Proofs.YtjpbjbnialehbaaGreatDoor
