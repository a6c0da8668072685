/- Contracts over this seat's translation, laid together; conditions stand as hypotheses of each. -/
import Derived.Deep.RegionHeld
import Derived.Deep.WholeRow
import Derived.Deep.RegionWith
import Derived.Maps.AppendAt
import Derived.Laws.CopyOwn
import Derived.Deep.DeepMust
import Derived.WalkKit
import Derived.ProofKit
import Derived.OpenShut
import Derived.ShutString
import Derived.ChangeOld
import Derived.Below
import Derived.Deep.OwnRows
import Derived.WalkSpells
import Derived.Laws.AppendOwnNone
import Derived.Laws.OwnMore
import Derived.BigQuiet
import Derived.Laws.BitsLemmas
import Derived.WalkLawsBesides
import Derived.Laws.ResultCell
import Derived.Laws.Rows
import Derived.Test.YtjpbjbnialehbaaProg
import GoSem.Claim
import Derived.JoinedTies
import Derived.KernelRfl

namespace Go.Proofs.Ytjpbjbnialehbaa
open Go.ChangeShapes Go.WideShapes Go.ChangeAt Go.RowKit
set_option linter.unusedVariables false
set_option maxRecDepth 8000
theorem hide {p : Prop} (h : p) : Hid p := h
theorem unhide {p : Prop} (h : Hid p) : p := h
/-- An operand: mode, register, word. -/
structure Od where
  m : Int
  r : Int
  x : Int
/-- An instruction. -/
structure Is where
  op : Int
  s : Od
  d : Od
  n : Int
def Od.v (o : Od) : Value := .agg #[.int .i64 o.m, .int .i64 o.r, .int .i64 o.x]
def Is.v (i : Is) : Value := .agg #[.int .i64 i.op, .int .i64 i.s.m, .int .i64 i.s.r, .int .i64 i.s.x, .int .i64 i.d.m, .int .i64 i.d.r, .int .i64 i.d.x, .int .i64 i.n]
def inB (x a b : Int) : Bool := decide (a ≤ x) && decide (x ≤ b)
def Od.hasX (o : Od) : Bool := (o.m == 6 || o.m == 7) || (o.r == 7 && (o.m == 2 || o.m == 3))
def Od.ok (o : Od) : Bool := ((inB o.m 0 7 && inB o.r 0 7) && inB o.x 0 65535) && (o.hasX || o.x == 0)
def Od.zero (o : Od) : Bool := o.m == 0 && (o.r == 0 && o.x == 0)
def Is.ok (i : Is) : Bool :=
  if inB i.op 1 6 = true then (i.s.ok && i.d.ok) && i.n == 0
  else if inB i.op 7 14 = true then (i.s.zero && i.d.ok) && i.n == 0
  else if i.op == 15 then (i.s.zero && i.d.ok) && inB i.n 0 7
  else if (!i.s.zero || !i.d.zero) = true then false
  else if i.op == 16 then inB i.n 0 7
  else if inB i.op 17 21 = true then inB i.n (-128) 127
  else if i.op == 22 then i.n == 0
  else if i.op == 23 then inB i.n 0 255
  else false
def Is.words (i : Is) : Int := 1 + (if (inB i.op 1 6 && i.s.hasX) = true then 1 else 0) + (if (inB i.op 1 15 && i.d.hasX) = true then 1 else 0)
theorem in_any (x a b : Int) (w : World) : Calls Try.prog 46 #[.int .i64 x, .int .i64 a, .int .i64 b] w fun e w' => e = .returned (.bool (inB x a b)) ∧ w' = w := by
  unfold inB
  by_cases h1 : a ≤ x
  · rw [decide_eq_true h1, Bool.true_and]
    go_enter Try.func46, Try.ntmps46
    go_wp2
    go_ret
    exact ⟨rfl, rfl⟩
  · rw [decide_eq_false h1, Bool.false_and]
    have h3 : decide (a ≤ x) = false := decide_eq_false h1
    go_enter Try.func46, Try.ntmps46
    go_wp2
    go_ret
    exact ⟨rfl, rfl⟩
set_option maxHeartbeats 1000000 in
theorem hasX_any (o : Od) (w : World) : Calls Try.prog 74 #[o.v] w fun e w' => e = .returned (.bool o.hasX) ∧ Below w.heap.size w w' := by
  obtain ⟨m, r, x⟩ := o
  unfold Od.hasX Od.v
  simp only
  have hB := hide ((Below.refl w.heap.size w).alloc (Nat.le_refl _) (Obj.cells #[.int .i64 m, .int .i64 r, .int .i64 x] 93))
  cases h6 : (m == 6)
  · cases h7 : (m == 7)
    · cases h8 : (r == 7)
      · go_enter Try.func74, Try.ntmps74
        go_wp2
        go_ret
        exact ⟨rfl, unhide hB⟩
      · cases h2 : (m == 2)
        · go_enter Try.func74, Try.ntmps74
          go_wp2
          go_ret
          exact ⟨rfl, unhide hB⟩
        · go_enter Try.func74, Try.ntmps74
          go_wp2
          go_ret
          exact ⟨rfl, unhide hB⟩
    · go_enter Try.func74, Try.ntmps74
      go_wp2
      go_ret
      exact ⟨rfl, unhide hB⟩
  · go_enter Try.func74, Try.ntmps74
    go_wp2
    go_ret
    exact ⟨rfl, unhide hB⟩
set_option maxHeartbeats 1000000 in
theorem opdOk_any (o : Od) (w : World) : Calls Try.prog 76 #[o.v] w fun e w' => e = .returned (.bool o.ok) ∧ Below w.heap.size w w' := by
  have HX := hide (fun w => hasX_any o w)
  obtain ⟨m, r, x⟩ := o
  unfold Od.ok
  obtain ⟨q, hq⟩ : ∃ q, Od.hasX ⟨m, r, x⟩ = q := ⟨_, rfl⟩
  rw [hq] at HX ⊢
  clear hq
  unfold Od.v at HX ⊢
  simp only at HX ⊢
  have hB := hide ((Below.refl w.heap.size w).alloc (Nat.le_refl _) (Obj.cells #[.int .i64 m, .int .i64 r, .int .i64 x] 93))
  cases h1 : inB m 0 7
  · go_enter Try.func76, Try.ntmps76
    go_wp2_with (go_at_call 46; refine (in_any _ _ _ _).mono ?_; rintro e w' ⟨rfl, hw'⟩; rw [hw']; clear hw' w')
    go_ret
    exact ⟨rfl, unhide hB⟩
  · cases h2 : inB r 0 7
    · go_enter Try.func76, Try.ntmps76
      go_wp2_with (go_at_call 46; refine (in_any _ _ _ _).mono ?_; rintro e w' ⟨rfl, hw'⟩; rw [hw']; clear hw' w')
      go_ret
      exact ⟨rfl, unhide hB⟩
    · cases h3 : inB x 0 65535
      · go_enter Try.func76, Try.ntmps76
        go_wp2_with (go_at_call 46; refine (in_any _ _ _ _).mono ?_; rintro e w' ⟨rfl, hw'⟩; rw [hw']; clear hw' w')
        go_ret
        exact ⟨rfl, unhide hB⟩
      · have hz : (w.alloc (Obj.cells #[.int .i64 m, .int .i64 r, .int .i64 x] 93)).heap.size = w.heap.size + 1 := by simp
        have hcl : ∀ w', Below (w.heap.size + 1) (w.alloc (Obj.cells #[.int .i64 m, .int .i64 r, .int .i64 x] 93)) w' → w'.cell? ⟨w.heap.size, 2, none⟩ = some (.int .i64 x) := fun w' hb => (hb.cell (p := ⟨w.heap.size, 2, none⟩) (by simp)).trans (by simp)
        have HZ := hide hz
        have HCL := hide hcl
        clear hz hcl
        go_enter Try.func76, Try.ntmps76
        go_wp2_with (go_at_call 46; refine (in_any _ _ _ _).mono ?_; rintro e w' ⟨rfl, hw'⟩; rw [hw']; clear hw' w')
        refine (unhide HX _).mono ?_
        rintro e w2 ⟨rfl, hb2⟩
        rw [unhide HZ] at hb2
        have hcx := unhide HCL w2 hb2
        have B2 := hide ((unhide hB).trans (hb2.mono (by omega)))
        clear hb2 HX
        cases q
        · go_wp2
          go_ret
          exact ⟨rfl, unhide B2⟩
        · go_wp2
          go_ret
          exact ⟨rfl, unhide B2⟩
end Go.Proofs.Ytjpbjbnialehbaa

namespace Go.Proofs.Ytjpbjbnialehbaa
open Go.ChangeShapes Go.WideShapes Go.ChangeAt Go.RowKit
set_option linter.unusedVariables false
set_option maxRecDepth 8000
set_option maxHeartbeats 1000000 in
theorem zero_any (o : Od) (w : World) : Calls Try.prog 77 #[o.v] w fun e w' => e = .returned (.bool o.zero) ∧ Below w.heap.size w w' := by
  obtain ⟨m, r, x⟩ := o
  unfold Od.zero Od.v
  simp only
  go_enter Try.func77, Try.ntmps77
  go_wp2
  all_goals go_ret
  all_goals refine ⟨?_, (Below.refl _ _).alloc (Nat.le_refl _) _⟩
  all_goals simp_all
end Go.Proofs.Ytjpbjbnialehbaa

namespace Go.Proofs.Ytjpbjbnialehbaa
open Go.ChangeShapes Go.WideShapes Go.ChangeAt Go.RowKit
set_option linter.unusedVariables false
set_option maxRecDepth 8000
set_option linter.unusedSimpArgs false
theorem box_cells (w : World) (cs : Array Value) (t : TypeId) : ∀ w', Below (w.heap.size + 1) (w.alloc (Obj.cells cs t)) w' → ∀ j v, cs[j]? = some v → w'.cell? ⟨w.heap.size, j, none⟩ = some v := fun w' hb j v hv =>
  (hb.cell (p := ⟨w.heap.size, j, none⟩) (by simp)).trans (by rw [World.cell?_alloc_at _ _ _ _ rfl]; exact hv)
theorem box_below (w : World) (o : Obj) : ∀ w', Below (w.heap.size + 1) (w.alloc o) w' → Below w.heap.size w w' := fun w' hb =>
  ((Below.refl _ _).alloc (Nat.le_refl _) _).trans (hb.mono (by omega))
set_option maxHeartbeats 4000000 in
theorem insOk_any (i : Is) (w : World) : Calls Try.prog 71 #[i.v] w fun e w' => e = .returned (.bool i.ok) ∧ Below w.heap.size w w' := by
  obtain ⟨op, ⟨sm, sr, sx⟩, ⟨dm, dr, dx⟩, n⟩ := i
  have HZ := hide (show (w.alloc (Obj.cells #[.int .i64 op, .int .i64 sm, .int .i64 sr, .int .i64 sx, .int .i64 dm, .int .i64 dr, .int .i64 dx, .int .i64 n] 95)).heap.size = w.heap.size + 1 by simp)
  have HCL := hide (box_cells w #[.int .i64 op, .int .i64 sm, .int .i64 sr, .int .i64 sx, .int .i64 dm, .int .i64 dr, .int .i64 dx, .int .i64 n] 95)
  have HB := hide (box_below w (Obj.cells #[.int .i64 op, .int .i64 sm, .int .i64 sr, .int .i64 sx, .int .i64 dm, .int .i64 dr, .int .i64 dx, .int .i64 n] 95))
  unfold Is.v
  simp only
  cases hA : inB op 1 6
  · cases hB1 : inB op 7 14
    · cases hC : (op == 15)
      · cases hz1 : Od.zero ⟨sm, sr, sx⟩
        · have HR := hide (show false = Is.ok ⟨op, ⟨sm, sr, sx⟩, ⟨dm, dr, dx⟩, n⟩ by simp [Is.ok, *])
          go_enter Try.func71, Try.ntmps71
          go_wp2_with (go_at_call 46; refine (in_any _ _ _ _).mono ?_; rintro e w' ⟨rfl, hw'⟩; rw [hw']; clear hw' w')
          refine (zero_any ⟨sm, sr, sx⟩ _).mono ?_
          rintro e w1 ⟨rfl, hb1⟩
          rw [unhide HZ] at hb1
          have Bz1 := hb1
          have a0 := unhide HCL w1 Bz1 0 _ rfl
          have a1 := unhide HCL w1 Bz1 1 _ rfl
          have a2 := unhide HCL w1 Bz1 2 _ rfl
          have a3 := unhide HCL w1 Bz1 3 _ rfl
          have a4 := unhide HCL w1 Bz1 4 _ rfl
          have a5 := unhide HCL w1 Bz1 5 _ rfl
          have a6 := unhide HCL w1 Bz1 6 _ rfl
          have a7 := unhide HCL w1 Bz1 7 _ rfl
          rw [hz1]
          go_wp2_with (go_at_call 46; refine (in_any _ _ _ _).mono ?_; rintro e w' ⟨rfl, hw'⟩; rw [hw']; clear hw' w')
          go_ret
          exact ⟨by rw [← unhide HR]; rfl, unhide HB _ Bz1⟩
        · cases hz2 : Od.zero ⟨dm, dr, dx⟩
          · have HR := hide (show false = Is.ok ⟨op, ⟨sm, sr, sx⟩, ⟨dm, dr, dx⟩, n⟩ by simp [Is.ok, *])
            go_enter Try.func71, Try.ntmps71
            go_wp2_with (go_at_call 46; refine (in_any _ _ _ _).mono ?_; rintro e w' ⟨rfl, hw'⟩; rw [hw']; clear hw' w')
            refine (zero_any ⟨sm, sr, sx⟩ _).mono ?_
            rintro e w1 ⟨rfl, hb1⟩
            rw [unhide HZ] at hb1
            have Bz1 := hb1
            have a0 := unhide HCL w1 Bz1 0 _ rfl
            have a1 := unhide HCL w1 Bz1 1 _ rfl
            have a2 := unhide HCL w1 Bz1 2 _ rfl
            have a3 := unhide HCL w1 Bz1 3 _ rfl
            have a4 := unhide HCL w1 Bz1 4 _ rfl
            have a5 := unhide HCL w1 Bz1 5 _ rfl
            have a6 := unhide HCL w1 Bz1 6 _ rfl
            have a7 := unhide HCL w1 Bz1 7 _ rfl
            rw [hz1]
            clear hb1
            go_wp2_with (go_at_call 46; refine (in_any _ _ _ _).mono ?_; rintro e w' ⟨rfl, hw'⟩; rw [hw']; clear hw' w')
            refine (zero_any ⟨dm, dr, dx⟩ _).mono ?_
            rintro e w2 ⟨rfl, hb2⟩
            have Bz2 := Bz1.trans (hb2.mono (by have := Bz1.size; rw [unhide HZ] at this; exact this))
            have a0 := unhide HCL w2 Bz2 0 _ rfl
            have a1 := unhide HCL w2 Bz2 1 _ rfl
            have a2 := unhide HCL w2 Bz2 2 _ rfl
            have a3 := unhide HCL w2 Bz2 3 _ rfl
            have a4 := unhide HCL w2 Bz2 4 _ rfl
            have a5 := unhide HCL w2 Bz2 5 _ rfl
            have a6 := unhide HCL w2 Bz2 6 _ rfl
            have a7 := unhide HCL w2 Bz2 7 _ rfl
            rw [hz2]
            go_wp2_with (go_at_call 46; refine (in_any _ _ _ _).mono ?_; rintro e w' ⟨rfl, hw'⟩; rw [hw']; clear hw' w')
            go_ret
            exact ⟨by rw [← unhide HR]; rfl, unhide HB _ Bz2⟩
          · cases h16 : (op == 16)
            · cases h17 : inB op 17 21
              · cases h22 : (op == 22)
                · cases h23 : (op == 23)
                  · have HR := hide (show false = Is.ok ⟨op, ⟨sm, sr, sx⟩, ⟨dm, dr, dx⟩, n⟩ by simp [Is.ok, *])
                    go_enter Try.func71, Try.ntmps71
                    go_wp2_with (go_at_call 46; refine (in_any _ _ _ _).mono ?_; rintro e w' ⟨rfl, hw'⟩; rw [hw']; clear hw' w')
                    refine (zero_any ⟨sm, sr, sx⟩ _).mono ?_
                    rintro e w1 ⟨rfl, hb1⟩
                    rw [unhide HZ] at hb1
                    have Bz1 := hb1
                    have a0 := unhide HCL w1 Bz1 0 _ rfl
                    have a1 := unhide HCL w1 Bz1 1 _ rfl
                    have a2 := unhide HCL w1 Bz1 2 _ rfl
                    have a3 := unhide HCL w1 Bz1 3 _ rfl
                    have a4 := unhide HCL w1 Bz1 4 _ rfl
                    have a5 := unhide HCL w1 Bz1 5 _ rfl
                    have a6 := unhide HCL w1 Bz1 6 _ rfl
                    have a7 := unhide HCL w1 Bz1 7 _ rfl
                    rw [hz1]
                    clear hb1
                    go_wp2_with (go_at_call 46; refine (in_any _ _ _ _).mono ?_; rintro e w' ⟨rfl, hw'⟩; rw [hw']; clear hw' w')
                    refine (zero_any ⟨dm, dr, dx⟩ _).mono ?_
                    rintro e w2 ⟨rfl, hb2⟩
                    have Bz2 := Bz1.trans (hb2.mono (by have := Bz1.size; rw [unhide HZ] at this; exact this))
                    have a0 := unhide HCL w2 Bz2 0 _ rfl
                    have a1 := unhide HCL w2 Bz2 1 _ rfl
                    have a2 := unhide HCL w2 Bz2 2 _ rfl
                    have a3 := unhide HCL w2 Bz2 3 _ rfl
                    have a4 := unhide HCL w2 Bz2 4 _ rfl
                    have a5 := unhide HCL w2 Bz2 5 _ rfl
                    have a6 := unhide HCL w2 Bz2 6 _ rfl
                    have a7 := unhide HCL w2 Bz2 7 _ rfl
                    rw [hz2]
                    go_wp2_with (go_at_call 46; refine (in_any _ _ _ _).mono ?_; rintro e w' ⟨rfl, hw'⟩; rw [hw']; clear hw' w')
                    go_ret
                    exact ⟨by rw [← unhide HR]; rfl, unhide HB _ Bz2⟩
                  · have HR := hide (show inB n 0 255 = Is.ok ⟨op, ⟨sm, sr, sx⟩, ⟨dm, dr, dx⟩, n⟩ by simp [Is.ok, *])
                    go_enter Try.func71, Try.ntmps71
                    go_wp2_with (go_at_call 46; refine (in_any _ _ _ _).mono ?_; rintro e w' ⟨rfl, hw'⟩; rw [hw']; clear hw' w')
                    refine (zero_any ⟨sm, sr, sx⟩ _).mono ?_
                    rintro e w1 ⟨rfl, hb1⟩
                    rw [unhide HZ] at hb1
                    have Bz1 := hb1
                    have a0 := unhide HCL w1 Bz1 0 _ rfl
                    have a1 := unhide HCL w1 Bz1 1 _ rfl
                    have a2 := unhide HCL w1 Bz1 2 _ rfl
                    have a3 := unhide HCL w1 Bz1 3 _ rfl
                    have a4 := unhide HCL w1 Bz1 4 _ rfl
                    have a5 := unhide HCL w1 Bz1 5 _ rfl
                    have a6 := unhide HCL w1 Bz1 6 _ rfl
                    have a7 := unhide HCL w1 Bz1 7 _ rfl
                    rw [hz1]
                    clear hb1
                    go_wp2_with (go_at_call 46; refine (in_any _ _ _ _).mono ?_; rintro e w' ⟨rfl, hw'⟩; rw [hw']; clear hw' w')
                    refine (zero_any ⟨dm, dr, dx⟩ _).mono ?_
                    rintro e w2 ⟨rfl, hb2⟩
                    have Bz2 := Bz1.trans (hb2.mono (by have := Bz1.size; rw [unhide HZ] at this; exact this))
                    have a0 := unhide HCL w2 Bz2 0 _ rfl
                    have a1 := unhide HCL w2 Bz2 1 _ rfl
                    have a2 := unhide HCL w2 Bz2 2 _ rfl
                    have a3 := unhide HCL w2 Bz2 3 _ rfl
                    have a4 := unhide HCL w2 Bz2 4 _ rfl
                    have a5 := unhide HCL w2 Bz2 5 _ rfl
                    have a6 := unhide HCL w2 Bz2 6 _ rfl
                    have a7 := unhide HCL w2 Bz2 7 _ rfl
                    rw [hz2]
                    go_wp2_with (go_at_call 46; refine (in_any _ _ _ _).mono ?_; rintro e w' ⟨rfl, hw'⟩; rw [hw']; clear hw' w')
                    go_ret
                    exact ⟨by rw [← unhide HR]; rfl, unhide HB _ Bz2⟩
                · have HR := hide (show (n == 0) = Is.ok ⟨op, ⟨sm, sr, sx⟩, ⟨dm, dr, dx⟩, n⟩ by simp [Is.ok, *])
                  go_enter Try.func71, Try.ntmps71
                  go_wp2_with (go_at_call 46; refine (in_any _ _ _ _).mono ?_; rintro e w' ⟨rfl, hw'⟩; rw [hw']; clear hw' w')
                  refine (zero_any ⟨sm, sr, sx⟩ _).mono ?_
                  rintro e w1 ⟨rfl, hb1⟩
                  rw [unhide HZ] at hb1
                  have Bz1 := hb1
                  have a0 := unhide HCL w1 Bz1 0 _ rfl
                  have a1 := unhide HCL w1 Bz1 1 _ rfl
                  have a2 := unhide HCL w1 Bz1 2 _ rfl
                  have a3 := unhide HCL w1 Bz1 3 _ rfl
                  have a4 := unhide HCL w1 Bz1 4 _ rfl
                  have a5 := unhide HCL w1 Bz1 5 _ rfl
                  have a6 := unhide HCL w1 Bz1 6 _ rfl
                  have a7 := unhide HCL w1 Bz1 7 _ rfl
                  rw [hz1]
                  clear hb1
                  go_wp2_with (go_at_call 46; refine (in_any _ _ _ _).mono ?_; rintro e w' ⟨rfl, hw'⟩; rw [hw']; clear hw' w')
                  refine (zero_any ⟨dm, dr, dx⟩ _).mono ?_
                  rintro e w2 ⟨rfl, hb2⟩
                  have Bz2 := Bz1.trans (hb2.mono (by have := Bz1.size; rw [unhide HZ] at this; exact this))
                  have a0 := unhide HCL w2 Bz2 0 _ rfl
                  have a1 := unhide HCL w2 Bz2 1 _ rfl
                  have a2 := unhide HCL w2 Bz2 2 _ rfl
                  have a3 := unhide HCL w2 Bz2 3 _ rfl
                  have a4 := unhide HCL w2 Bz2 4 _ rfl
                  have a5 := unhide HCL w2 Bz2 5 _ rfl
                  have a6 := unhide HCL w2 Bz2 6 _ rfl
                  have a7 := unhide HCL w2 Bz2 7 _ rfl
                  rw [hz2]
                  go_wp2_with (go_at_call 46; refine (in_any _ _ _ _).mono ?_; rintro e w' ⟨rfl, hw'⟩; rw [hw']; clear hw' w')
                  go_ret
                  exact ⟨by rw [← unhide HR]; rfl, unhide HB _ Bz2⟩
              · have HR := hide (show inB n (-128) 127 = Is.ok ⟨op, ⟨sm, sr, sx⟩, ⟨dm, dr, dx⟩, n⟩ by simp [Is.ok, *])
                go_enter Try.func71, Try.ntmps71
                go_wp2_with (go_at_call 46; refine (in_any _ _ _ _).mono ?_; rintro e w' ⟨rfl, hw'⟩; rw [hw']; clear hw' w')
                refine (zero_any ⟨sm, sr, sx⟩ _).mono ?_
                rintro e w1 ⟨rfl, hb1⟩
                rw [unhide HZ] at hb1
                have Bz1 := hb1
                have a0 := unhide HCL w1 Bz1 0 _ rfl
                have a1 := unhide HCL w1 Bz1 1 _ rfl
                have a2 := unhide HCL w1 Bz1 2 _ rfl
                have a3 := unhide HCL w1 Bz1 3 _ rfl
                have a4 := unhide HCL w1 Bz1 4 _ rfl
                have a5 := unhide HCL w1 Bz1 5 _ rfl
                have a6 := unhide HCL w1 Bz1 6 _ rfl
                have a7 := unhide HCL w1 Bz1 7 _ rfl
                rw [hz1]
                clear hb1
                go_wp2_with (go_at_call 46; refine (in_any _ _ _ _).mono ?_; rintro e w' ⟨rfl, hw'⟩; rw [hw']; clear hw' w')
                refine (zero_any ⟨dm, dr, dx⟩ _).mono ?_
                rintro e w2 ⟨rfl, hb2⟩
                have Bz2 := Bz1.trans (hb2.mono (by have := Bz1.size; rw [unhide HZ] at this; exact this))
                have a0 := unhide HCL w2 Bz2 0 _ rfl
                have a1 := unhide HCL w2 Bz2 1 _ rfl
                have a2 := unhide HCL w2 Bz2 2 _ rfl
                have a3 := unhide HCL w2 Bz2 3 _ rfl
                have a4 := unhide HCL w2 Bz2 4 _ rfl
                have a5 := unhide HCL w2 Bz2 5 _ rfl
                have a6 := unhide HCL w2 Bz2 6 _ rfl
                have a7 := unhide HCL w2 Bz2 7 _ rfl
                rw [hz2]
                go_wp2_with (go_at_call 46; refine (in_any _ _ _ _).mono ?_; rintro e w' ⟨rfl, hw'⟩; rw [hw']; clear hw' w')
                go_ret
                exact ⟨by rw [← unhide HR]; rfl, unhide HB _ Bz2⟩
            · have HR := hide (show inB n 0 7 = Is.ok ⟨op, ⟨sm, sr, sx⟩, ⟨dm, dr, dx⟩, n⟩ by simp [Is.ok, *])
              go_enter Try.func71, Try.ntmps71
              go_wp2_with (go_at_call 46; refine (in_any _ _ _ _).mono ?_; rintro e w' ⟨rfl, hw'⟩; rw [hw']; clear hw' w')
              refine (zero_any ⟨sm, sr, sx⟩ _).mono ?_
              rintro e w1 ⟨rfl, hb1⟩
              rw [unhide HZ] at hb1
              have Bz1 := hb1
              have a0 := unhide HCL w1 Bz1 0 _ rfl
              have a1 := unhide HCL w1 Bz1 1 _ rfl
              have a2 := unhide HCL w1 Bz1 2 _ rfl
              have a3 := unhide HCL w1 Bz1 3 _ rfl
              have a4 := unhide HCL w1 Bz1 4 _ rfl
              have a5 := unhide HCL w1 Bz1 5 _ rfl
              have a6 := unhide HCL w1 Bz1 6 _ rfl
              have a7 := unhide HCL w1 Bz1 7 _ rfl
              rw [hz1]
              clear hb1
              go_wp2_with (go_at_call 46; refine (in_any _ _ _ _).mono ?_; rintro e w' ⟨rfl, hw'⟩; rw [hw']; clear hw' w')
              refine (zero_any ⟨dm, dr, dx⟩ _).mono ?_
              rintro e w2 ⟨rfl, hb2⟩
              have Bz2 := Bz1.trans (hb2.mono (by have := Bz1.size; rw [unhide HZ] at this; exact this))
              have a0 := unhide HCL w2 Bz2 0 _ rfl
              have a1 := unhide HCL w2 Bz2 1 _ rfl
              have a2 := unhide HCL w2 Bz2 2 _ rfl
              have a3 := unhide HCL w2 Bz2 3 _ rfl
              have a4 := unhide HCL w2 Bz2 4 _ rfl
              have a5 := unhide HCL w2 Bz2 5 _ rfl
              have a6 := unhide HCL w2 Bz2 6 _ rfl
              have a7 := unhide HCL w2 Bz2 7 _ rfl
              rw [hz2]
              go_wp2_with (go_at_call 46; refine (in_any _ _ _ _).mono ?_; rintro e w' ⟨rfl, hw'⟩; rw [hw']; clear hw' w')
              go_ret
              exact ⟨by rw [← unhide HR]; rfl, unhide HB _ Bz2⟩
      · cases hs : Od.zero ⟨sm, sr, sx⟩
        · have HR := hide (show false = Is.ok ⟨op, ⟨sm, sr, sx⟩, ⟨dm, dr, dx⟩, n⟩ by simp [Is.ok, *])
          go_enter Try.func71, Try.ntmps71
          go_wp2_with (go_at_call 46; refine (in_any _ _ _ _).mono ?_; rintro e w' ⟨rfl, hw'⟩; rw [hw']; clear hw' w')
          refine (zero_any ⟨sm, sr, sx⟩ _).mono ?_
          rintro e w1 ⟨rfl, hb1⟩
          rw [unhide HZ] at hb1
          have Bz1 := hb1
          have a0 := unhide HCL w1 Bz1 0 _ rfl
          have a1 := unhide HCL w1 Bz1 1 _ rfl
          have a2 := unhide HCL w1 Bz1 2 _ rfl
          have a3 := unhide HCL w1 Bz1 3 _ rfl
          have a4 := unhide HCL w1 Bz1 4 _ rfl
          have a5 := unhide HCL w1 Bz1 5 _ rfl
          have a6 := unhide HCL w1 Bz1 6 _ rfl
          have a7 := unhide HCL w1 Bz1 7 _ rfl
          rw [hs]
          go_wp2_with (go_at_call 46; refine (in_any _ _ _ _).mono ?_; rintro e w' ⟨rfl, hw'⟩; rw [hw']; clear hw' w')
          go_ret
          exact ⟨by rw [← unhide HR]; rfl, unhide HB _ Bz1⟩
        · cases hd : Od.ok ⟨dm, dr, dx⟩
          · have HR := hide (show false = Is.ok ⟨op, ⟨sm, sr, sx⟩, ⟨dm, dr, dx⟩, n⟩ by simp [Is.ok, *])
            go_enter Try.func71, Try.ntmps71
            go_wp2_with (go_at_call 46; refine (in_any _ _ _ _).mono ?_; rintro e w' ⟨rfl, hw'⟩; rw [hw']; clear hw' w')
            refine (zero_any ⟨sm, sr, sx⟩ _).mono ?_
            rintro e w1 ⟨rfl, hb1⟩
            rw [unhide HZ] at hb1
            have Bz1 := hb1
            have a0 := unhide HCL w1 Bz1 0 _ rfl
            have a1 := unhide HCL w1 Bz1 1 _ rfl
            have a2 := unhide HCL w1 Bz1 2 _ rfl
            have a3 := unhide HCL w1 Bz1 3 _ rfl
            have a4 := unhide HCL w1 Bz1 4 _ rfl
            have a5 := unhide HCL w1 Bz1 5 _ rfl
            have a6 := unhide HCL w1 Bz1 6 _ rfl
            have a7 := unhide HCL w1 Bz1 7 _ rfl
            rw [hs]
            clear hb1
            go_wp2_with (go_at_call 46; refine (in_any _ _ _ _).mono ?_; rintro e w' ⟨rfl, hw'⟩; rw [hw']; clear hw' w')
            refine (opdOk_any ⟨dm, dr, dx⟩ _).mono ?_
            rintro e w2 ⟨rfl, hb2⟩
            have Bz2 := Bz1.trans (hb2.mono (by have := Bz1.size; rw [unhide HZ] at this; exact this))
            have a0 := unhide HCL w2 Bz2 0 _ rfl
            have a1 := unhide HCL w2 Bz2 1 _ rfl
            have a2 := unhide HCL w2 Bz2 2 _ rfl
            have a3 := unhide HCL w2 Bz2 3 _ rfl
            have a4 := unhide HCL w2 Bz2 4 _ rfl
            have a5 := unhide HCL w2 Bz2 5 _ rfl
            have a6 := unhide HCL w2 Bz2 6 _ rfl
            have a7 := unhide HCL w2 Bz2 7 _ rfl
            rw [hd]
            go_wp2_with (go_at_call 46; refine (in_any _ _ _ _).mono ?_; rintro e w' ⟨rfl, hw'⟩; rw [hw']; clear hw' w')
            go_ret
            exact ⟨by rw [← unhide HR]; rfl, unhide HB _ Bz2⟩
          · have HR := hide (show inB n 0 7 = Is.ok ⟨op, ⟨sm, sr, sx⟩, ⟨dm, dr, dx⟩, n⟩ by simp [Is.ok, *])
            go_enter Try.func71, Try.ntmps71
            go_wp2_with (go_at_call 46; refine (in_any _ _ _ _).mono ?_; rintro e w' ⟨rfl, hw'⟩; rw [hw']; clear hw' w')
            refine (zero_any ⟨sm, sr, sx⟩ _).mono ?_
            rintro e w1 ⟨rfl, hb1⟩
            rw [unhide HZ] at hb1
            have Bz1 := hb1
            have a0 := unhide HCL w1 Bz1 0 _ rfl
            have a1 := unhide HCL w1 Bz1 1 _ rfl
            have a2 := unhide HCL w1 Bz1 2 _ rfl
            have a3 := unhide HCL w1 Bz1 3 _ rfl
            have a4 := unhide HCL w1 Bz1 4 _ rfl
            have a5 := unhide HCL w1 Bz1 5 _ rfl
            have a6 := unhide HCL w1 Bz1 6 _ rfl
            have a7 := unhide HCL w1 Bz1 7 _ rfl
            rw [hs]
            clear hb1
            go_wp2_with (go_at_call 46; refine (in_any _ _ _ _).mono ?_; rintro e w' ⟨rfl, hw'⟩; rw [hw']; clear hw' w')
            refine (opdOk_any ⟨dm, dr, dx⟩ _).mono ?_
            rintro e w2 ⟨rfl, hb2⟩
            have Bz2 := Bz1.trans (hb2.mono (by have := Bz1.size; rw [unhide HZ] at this; exact this))
            have a0 := unhide HCL w2 Bz2 0 _ rfl
            have a1 := unhide HCL w2 Bz2 1 _ rfl
            have a2 := unhide HCL w2 Bz2 2 _ rfl
            have a3 := unhide HCL w2 Bz2 3 _ rfl
            have a4 := unhide HCL w2 Bz2 4 _ rfl
            have a5 := unhide HCL w2 Bz2 5 _ rfl
            have a6 := unhide HCL w2 Bz2 6 _ rfl
            have a7 := unhide HCL w2 Bz2 7 _ rfl
            rw [hd]
            go_wp2_with (go_at_call 46; refine (in_any _ _ _ _).mono ?_; rintro e w' ⟨rfl, hw'⟩; rw [hw']; clear hw' w')
            go_ret
            exact ⟨by rw [← unhide HR]; rfl, unhide HB _ Bz2⟩
    · cases hs : Od.zero ⟨sm, sr, sx⟩
      · have HR := hide (show false = Is.ok ⟨op, ⟨sm, sr, sx⟩, ⟨dm, dr, dx⟩, n⟩ by simp [Is.ok, *])
        go_enter Try.func71, Try.ntmps71
        go_wp2_with (go_at_call 46; refine (in_any _ _ _ _).mono ?_; rintro e w' ⟨rfl, hw'⟩; rw [hw']; clear hw' w')
        refine (zero_any ⟨sm, sr, sx⟩ _).mono ?_
        rintro e w1 ⟨rfl, hb1⟩
        rw [unhide HZ] at hb1
        have Bz1 := hb1
        have a0 := unhide HCL w1 Bz1 0 _ rfl
        have a1 := unhide HCL w1 Bz1 1 _ rfl
        have a2 := unhide HCL w1 Bz1 2 _ rfl
        have a3 := unhide HCL w1 Bz1 3 _ rfl
        have a4 := unhide HCL w1 Bz1 4 _ rfl
        have a5 := unhide HCL w1 Bz1 5 _ rfl
        have a6 := unhide HCL w1 Bz1 6 _ rfl
        have a7 := unhide HCL w1 Bz1 7 _ rfl
        rw [hs]
        go_wp2_with (go_at_call 46; refine (in_any _ _ _ _).mono ?_; rintro e w' ⟨rfl, hw'⟩; rw [hw']; clear hw' w')
        go_ret
        exact ⟨by rw [← unhide HR]; rfl, unhide HB _ Bz1⟩
      · cases hd : Od.ok ⟨dm, dr, dx⟩
        · have HR := hide (show false = Is.ok ⟨op, ⟨sm, sr, sx⟩, ⟨dm, dr, dx⟩, n⟩ by simp [Is.ok, *])
          go_enter Try.func71, Try.ntmps71
          go_wp2_with (go_at_call 46; refine (in_any _ _ _ _).mono ?_; rintro e w' ⟨rfl, hw'⟩; rw [hw']; clear hw' w')
          refine (zero_any ⟨sm, sr, sx⟩ _).mono ?_
          rintro e w1 ⟨rfl, hb1⟩
          rw [unhide HZ] at hb1
          have Bz1 := hb1
          have a0 := unhide HCL w1 Bz1 0 _ rfl
          have a1 := unhide HCL w1 Bz1 1 _ rfl
          have a2 := unhide HCL w1 Bz1 2 _ rfl
          have a3 := unhide HCL w1 Bz1 3 _ rfl
          have a4 := unhide HCL w1 Bz1 4 _ rfl
          have a5 := unhide HCL w1 Bz1 5 _ rfl
          have a6 := unhide HCL w1 Bz1 6 _ rfl
          have a7 := unhide HCL w1 Bz1 7 _ rfl
          rw [hs]
          clear hb1
          go_wp2_with (go_at_call 46; refine (in_any _ _ _ _).mono ?_; rintro e w' ⟨rfl, hw'⟩; rw [hw']; clear hw' w')
          refine (opdOk_any ⟨dm, dr, dx⟩ _).mono ?_
          rintro e w2 ⟨rfl, hb2⟩
          have Bz2 := Bz1.trans (hb2.mono (by have := Bz1.size; rw [unhide HZ] at this; exact this))
          have a0 := unhide HCL w2 Bz2 0 _ rfl
          have a1 := unhide HCL w2 Bz2 1 _ rfl
          have a2 := unhide HCL w2 Bz2 2 _ rfl
          have a3 := unhide HCL w2 Bz2 3 _ rfl
          have a4 := unhide HCL w2 Bz2 4 _ rfl
          have a5 := unhide HCL w2 Bz2 5 _ rfl
          have a6 := unhide HCL w2 Bz2 6 _ rfl
          have a7 := unhide HCL w2 Bz2 7 _ rfl
          rw [hd]
          go_wp2_with (go_at_call 46; refine (in_any _ _ _ _).mono ?_; rintro e w' ⟨rfl, hw'⟩; rw [hw']; clear hw' w')
          go_ret
          exact ⟨by rw [← unhide HR]; rfl, unhide HB _ Bz2⟩
        · have HR := hide (show (n == 0) = Is.ok ⟨op, ⟨sm, sr, sx⟩, ⟨dm, dr, dx⟩, n⟩ by simp [Is.ok, *])
          go_enter Try.func71, Try.ntmps71
          go_wp2_with (go_at_call 46; refine (in_any _ _ _ _).mono ?_; rintro e w' ⟨rfl, hw'⟩; rw [hw']; clear hw' w')
          refine (zero_any ⟨sm, sr, sx⟩ _).mono ?_
          rintro e w1 ⟨rfl, hb1⟩
          rw [unhide HZ] at hb1
          have Bz1 := hb1
          have a0 := unhide HCL w1 Bz1 0 _ rfl
          have a1 := unhide HCL w1 Bz1 1 _ rfl
          have a2 := unhide HCL w1 Bz1 2 _ rfl
          have a3 := unhide HCL w1 Bz1 3 _ rfl
          have a4 := unhide HCL w1 Bz1 4 _ rfl
          have a5 := unhide HCL w1 Bz1 5 _ rfl
          have a6 := unhide HCL w1 Bz1 6 _ rfl
          have a7 := unhide HCL w1 Bz1 7 _ rfl
          rw [hs]
          clear hb1
          go_wp2_with (go_at_call 46; refine (in_any _ _ _ _).mono ?_; rintro e w' ⟨rfl, hw'⟩; rw [hw']; clear hw' w')
          refine (opdOk_any ⟨dm, dr, dx⟩ _).mono ?_
          rintro e w2 ⟨rfl, hb2⟩
          have Bz2 := Bz1.trans (hb2.mono (by have := Bz1.size; rw [unhide HZ] at this; exact this))
          have a0 := unhide HCL w2 Bz2 0 _ rfl
          have a1 := unhide HCL w2 Bz2 1 _ rfl
          have a2 := unhide HCL w2 Bz2 2 _ rfl
          have a3 := unhide HCL w2 Bz2 3 _ rfl
          have a4 := unhide HCL w2 Bz2 4 _ rfl
          have a5 := unhide HCL w2 Bz2 5 _ rfl
          have a6 := unhide HCL w2 Bz2 6 _ rfl
          have a7 := unhide HCL w2 Bz2 7 _ rfl
          rw [hd]
          go_wp2_with (go_at_call 46; refine (in_any _ _ _ _).mono ?_; rintro e w' ⟨rfl, hw'⟩; rw [hw']; clear hw' w')
          go_ret
          exact ⟨by rw [← unhide HR]; rfl, unhide HB _ Bz2⟩
  · cases hs : Od.ok ⟨sm, sr, sx⟩
    · have HR := hide (show false = Is.ok ⟨op, ⟨sm, sr, sx⟩, ⟨dm, dr, dx⟩, n⟩ by simp [Is.ok, *])
      go_enter Try.func71, Try.ntmps71
      go_wp2_with (go_at_call 46; refine (in_any _ _ _ _).mono ?_; rintro e w' ⟨rfl, hw'⟩; rw [hw']; clear hw' w')
      refine (opdOk_any ⟨sm, sr, sx⟩ _).mono ?_
      rintro e w1 ⟨rfl, hb1⟩
      rw [unhide HZ] at hb1
      have Bz1 := hb1
      have a0 := unhide HCL w1 Bz1 0 _ rfl
      have a1 := unhide HCL w1 Bz1 1 _ rfl
      have a2 := unhide HCL w1 Bz1 2 _ rfl
      have a3 := unhide HCL w1 Bz1 3 _ rfl
      have a4 := unhide HCL w1 Bz1 4 _ rfl
      have a5 := unhide HCL w1 Bz1 5 _ rfl
      have a6 := unhide HCL w1 Bz1 6 _ rfl
      have a7 := unhide HCL w1 Bz1 7 _ rfl
      rw [hs]
      go_wp2_with (go_at_call 46; refine (in_any _ _ _ _).mono ?_; rintro e w' ⟨rfl, hw'⟩; rw [hw']; clear hw' w')
      go_ret
      exact ⟨by rw [← unhide HR]; rfl, unhide HB _ Bz1⟩
    · cases hd : Od.ok ⟨dm, dr, dx⟩
      · have HR := hide (show false = Is.ok ⟨op, ⟨sm, sr, sx⟩, ⟨dm, dr, dx⟩, n⟩ by simp [Is.ok, *])
        go_enter Try.func71, Try.ntmps71
        go_wp2_with (go_at_call 46; refine (in_any _ _ _ _).mono ?_; rintro e w' ⟨rfl, hw'⟩; rw [hw']; clear hw' w')
        refine (opdOk_any ⟨sm, sr, sx⟩ _).mono ?_
        rintro e w1 ⟨rfl, hb1⟩
        rw [unhide HZ] at hb1
        have Bz1 := hb1
        have a0 := unhide HCL w1 Bz1 0 _ rfl
        have a1 := unhide HCL w1 Bz1 1 _ rfl
        have a2 := unhide HCL w1 Bz1 2 _ rfl
        have a3 := unhide HCL w1 Bz1 3 _ rfl
        have a4 := unhide HCL w1 Bz1 4 _ rfl
        have a5 := unhide HCL w1 Bz1 5 _ rfl
        have a6 := unhide HCL w1 Bz1 6 _ rfl
        have a7 := unhide HCL w1 Bz1 7 _ rfl
        rw [hs]
        clear hb1
        go_wp2_with (go_at_call 46; refine (in_any _ _ _ _).mono ?_; rintro e w' ⟨rfl, hw'⟩; rw [hw']; clear hw' w')
        refine (opdOk_any ⟨dm, dr, dx⟩ _).mono ?_
        rintro e w2 ⟨rfl, hb2⟩
        have Bz2 := Bz1.trans (hb2.mono (by have := Bz1.size; rw [unhide HZ] at this; exact this))
        have a0 := unhide HCL w2 Bz2 0 _ rfl
        have a1 := unhide HCL w2 Bz2 1 _ rfl
        have a2 := unhide HCL w2 Bz2 2 _ rfl
        have a3 := unhide HCL w2 Bz2 3 _ rfl
        have a4 := unhide HCL w2 Bz2 4 _ rfl
        have a5 := unhide HCL w2 Bz2 5 _ rfl
        have a6 := unhide HCL w2 Bz2 6 _ rfl
        have a7 := unhide HCL w2 Bz2 7 _ rfl
        rw [hd]
        go_wp2_with (go_at_call 46; refine (in_any _ _ _ _).mono ?_; rintro e w' ⟨rfl, hw'⟩; rw [hw']; clear hw' w')
        go_ret
        exact ⟨by rw [← unhide HR]; rfl, unhide HB _ Bz2⟩
      · have HR := hide (show (n == 0) = Is.ok ⟨op, ⟨sm, sr, sx⟩, ⟨dm, dr, dx⟩, n⟩ by simp [Is.ok, *])
        go_enter Try.func71, Try.ntmps71
        go_wp2_with (go_at_call 46; refine (in_any _ _ _ _).mono ?_; rintro e w' ⟨rfl, hw'⟩; rw [hw']; clear hw' w')
        refine (opdOk_any ⟨sm, sr, sx⟩ _).mono ?_
        rintro e w1 ⟨rfl, hb1⟩
        rw [unhide HZ] at hb1
        have Bz1 := hb1
        have a0 := unhide HCL w1 Bz1 0 _ rfl
        have a1 := unhide HCL w1 Bz1 1 _ rfl
        have a2 := unhide HCL w1 Bz1 2 _ rfl
        have a3 := unhide HCL w1 Bz1 3 _ rfl
        have a4 := unhide HCL w1 Bz1 4 _ rfl
        have a5 := unhide HCL w1 Bz1 5 _ rfl
        have a6 := unhide HCL w1 Bz1 6 _ rfl
        have a7 := unhide HCL w1 Bz1 7 _ rfl
        rw [hs]
        clear hb1
        go_wp2_with (go_at_call 46; refine (in_any _ _ _ _).mono ?_; rintro e w' ⟨rfl, hw'⟩; rw [hw']; clear hw' w')
        refine (opdOk_any ⟨dm, dr, dx⟩ _).mono ?_
        rintro e w2 ⟨rfl, hb2⟩
        have Bz2 := Bz1.trans (hb2.mono (by have := Bz1.size; rw [unhide HZ] at this; exact this))
        have a0 := unhide HCL w2 Bz2 0 _ rfl
        have a1 := unhide HCL w2 Bz2 1 _ rfl
        have a2 := unhide HCL w2 Bz2 2 _ rfl
        have a3 := unhide HCL w2 Bz2 3 _ rfl
        have a4 := unhide HCL w2 Bz2 4 _ rfl
        have a5 := unhide HCL w2 Bz2 5 _ rfl
        have a6 := unhide HCL w2 Bz2 6 _ rfl
        have a7 := unhide HCL w2 Bz2 7 _ rfl
        rw [hd]
        go_wp2_with (go_at_call 46; refine (in_any _ _ _ _).mono ?_; rintro e w' ⟨rfl, hw'⟩; rw [hw']; clear hw' w')
        go_ret
        exact ⟨by rw [← unhide HR]; rfl, unhide HB _ Bz2⟩
end Go.Proofs.Ytjpbjbnialehbaa

namespace Go.Proofs.Ytjpbjbnialehbaa
open Go.ChangeShapes Go.WideShapes Go.ChangeAt Go.RowKit
set_option linter.unusedVariables false
set_option maxRecDepth 8000
def c8 (l : List Int) (j : Nat) : Value := .int .i64 (l.getD j 0)
def cs8 (l : List Int) : Array Value := #[c8 l 0, c8 l 1, c8 l 2, c8 l 3, c8 l 4, c8 l 5, c8 l 6, c8 l 7]
theorem row8 (w : World) (l : List Int) (t : TypeId) : (w.alloc (Obj.cells (cs8 l) t)).rowIs w.heap.size t 8 (c8 l) :=
  ⟨_, Array.getElem?_push_size, rfl, fun i hi => by
    obtain rfl | rfl | rfl | rfl | rfl | rfl | rfl | rfl : i = 0 ∨ i = 1 ∨ i = 2 ∨ i = 3 ∨ i = 4 ∨ i = 5 ∨ i = 6 ∨ i = 7 := by omega
    all_goals rfl⟩
theorem row8_heap {w : World} {b t : Nat} {l : List Int} (h : w.rowIs b t 8 (c8 l)) : w.heap[b]? = some (.cells (cs8 l) t (0, 0)) := by
  obtain ⟨c, hc, hs, hv⟩ := h
  rw [hc]
  congr 2
  apply Array.ext'
  apply List.ext_getElem?
  intro i
  by_cases hi : i < 8
  · rw [Array.getElem?_toList, hv i hi]
    obtain rfl | rfl | rfl | rfl | rfl | rfl | rfl | rfl : i = 0 ∨ i = 1 ∨ i = 2 ∨ i = 3 ∨ i = 4 ∨ i = 5 ∨ i = 6 ∨ i = 7 := by omega
    all_goals rfl
  · rw [List.getElem?_eq_none (by simp; omega), List.getElem?_eq_none (by simp [cs8]; omega)]
/-- A store into the row. -/
theorem row8_set {w : World} {b t : Nat} {l l' : List Int} (h : w.rowIs b t 8 (c8 l)) (k : Nat) (x : Int) (he : ∀ j, j < 8 → (if j = k then Value.int .i64 x else c8 l j) = c8 l' j) : (w.setCell ⟨b, k, none⟩ (.int .i64 x)).rowIs b t 8 (c8 l') := (h.set k _).congr he
/-- What stands while an instruction is copied: the box, the answer's block, the copy. -/
structure Cp (w wr : World) (tb ti : TypeId) (l r o : List Int) : Prop where
  bel : Below w.heap.size w wr
  box : wr.rowIs w.heap.size tb 8 (c8 l)
  res : wr.rowIs (w.heap.size + 1) ti 8 (c8 r)
  out : wr.rowIs (w.heap.size + 2) ti 8 (c8 o)
section
variable {w wr w' : World} {tb ti : TypeId} {l r o : List Int}
theorem Cp.later (h : Cp w wr tb ti l r o) (hb : Below wr.heap.size wr w') : Cp w w' tb ti l r o :=
  ⟨h.bel.trans (hb.mono h.bel.size), h.box.of_block (hb.block _ h.box.lt), h.res.of_block (hb.block _ h.res.lt), h.out.of_block (hb.block _ h.out.lt)⟩
theorem Cp.set (h : Cp w wr tb ti l r o) (k : Nat) (x : Int) (o' : List Int) (he : ∀ j, j < 8 → (if j = k then Value.int .i64 x else c8 o j) = c8 o' j) : Cp w (wr.setCell ⟨w.heap.size + 2, k, none⟩ (.int .i64 x)) tb ti l r o' :=
  ⟨h.bel.setCell (by show w.heap.size ≤ w.heap.size + 2; omega) _, h.box.of_block (Below.heap_setCell _ _ _ _ (by show w.heap.size ≠ w.heap.size + 2; omega)), h.res.of_block (Below.heap_setCell _ _ _ _ (by show w.heap.size + 1 ≠ w.heap.size + 2; omega)), row8_set h.out k x he⟩
theorem Cp.setR (h : Cp w wr tb ti l r o) (k : Nat) (x : Int) (r' : List Int) (he : ∀ j, j < 8 → (if j = k then Value.int .i64 x else c8 r j) = c8 r' j) : Cp w (wr.setCell ⟨w.heap.size + 1, k, none⟩ (.int .i64 x)) tb ti l r' o :=
  ⟨h.bel.setCell (by show w.heap.size ≤ w.heap.size + 1; omega) _, h.box.of_block (Below.heap_setCell _ _ _ _ (by show w.heap.size ≠ w.heap.size + 1; omega)), row8_set h.res k x he, h.out.of_block (Below.heap_setCell _ _ _ _ (by show w.heap.size + 2 ≠ w.heap.size + 1; omega))⟩
end
end Go.Proofs.Ytjpbjbnialehbaa

namespace Go.Proofs.Ytjpbjbnialehbaa
open Go.ChangeShapes Go.WideShapes Go.ChangeAt Go.RowKit
set_option linter.unusedVariables false
set_option maxRecDepth 8000
theorem info3 : (Try.prog.info? 3).map (fun i => (i.zero, i.size, i.bytes)) = some (some (.int .i64 0), 1, 8) := by kernel_rfl
/-- The i-th byte as a number. -/
def bAt (xs : List UInt8) (i : Nat) : Int := ((xs.getD i 0).toNat : Int)
theorem bAt_bd (xs : List UInt8) (i : Nat) : 0 ≤ bAt xs i ∧ bAt xs i ≤ 255 := by
  unfold bAt
  have := (xs.getD i 0).toNat_lt
  omega
def nAt (ns : List Int) (i : Nat) : Int := ns.getD i 0
theorem take_nAt (ns : List Int) (k : Nat) (h : k < ns.length) : ns.take (k + 1) = ns.take k ++ [nAt ns k] := by
  rw [List.take_succ_eq_append_getElem h]; simp [nAt, List.getElem?_eq_getElem h]
/-- A slice of ints with address a reads as ns. -/
def RdN (w : World) (a : Option Addr) (ns : List Int) : Prop :=
  ns = [] ∨ ∃ b off, a = some ⟨b, off, none⟩ ∧ b < w.heap.size ∧ ∀ i, i < ns.length → w.cell? ⟨b, off + i, none⟩ = some (.int .i64 (nAt ns i))
theorem RdN.later {w w' : World} {a : Option Addr} {xs : List Int} (h : RdN w a xs) (hb : Below w.heap.size w w') : RdN w' a xs := by
  rcases h with h | ⟨b, off, ha, hlt, hc⟩
  · exact .inl h
  · exact .inr ⟨b, off, ha, Nat.lt_of_lt_of_le hlt hb.size, fun i hi => (hb.cell (p := ⟨b, off + i, none⟩) hlt).trans (hc i hi)⟩
def cellsN (ns : List Int) : List Value := ns.map fun n => .int .i64 n
theorem cellsN_length (ys : List Int) : (cellsN ys).length = ys.length := by simp [cellsN]
theorem cellsN_append (a b : List Int) : cellsN (a ++ b) = cellsN a ++ cellsN b := by simp [cellsN]
theorem cellsN_one (ys : List Int) : ∀ u ∈ cellsN ys, u.oneCell' = true := by
  intro u hu
  simp only [cellsN, List.mem_map] at hu
  obtain ⟨y, _, rfl⟩ := hu
  rfl
/-- v is a slice of the call's own (blocks from B on) that holds the ints ns. -/
def OwnN (w : World) (B : Nat) (v : Value) (ns : List Int) : Prop := w.ownsRow B 3 1 v ns.length (cellsN ns)
theorem ownN_none (w : World) (B : Nat) : OwnN w B (.slice none 0 0) [] := ⟨rfl, .inl ⟨rfl, rfl⟩⟩
theorem ownN_empty (w : World) : OwnN (w.alloc (Obj.cells #[] 3)) w.heap.size (.slice (some ⟨w.heap.size, 0, none⟩) 0 0) [] :=
  World.ownsRow_lit w #[] 0 (Nat.le_refl _) (by decide) rfl
theorem OwnN.rd {w : World} {B : Nat} {v : Value} {ys : List Int} (h : OwnN w B v ys) : ∃ a cap, v = .slice a ys.length cap ∧ ys.length ≤ cap ∧ cap ≤ maxLen ∧ RdN w a ys ∧ (∀ ad, a = some ad → B ≤ ad.block) ∧ (a = none → cap = 0) := by
  obtain ⟨_, ⟨rfl, h0⟩ | ⟨g, cap, cur, rfl, hg, hh, hn, hm, hs, ht⟩⟩ := id h
  · obtain rfl : ys = [] := List.eq_nil_of_length_eq_zero h0
    exact ⟨none, 0, rfl, Nat.le_refl _, Nat.zero_le _, .inl rfl, (fun _ h => by cases h), fun _ => rfl⟩
  · refine ⟨_, cap, rfl, hn, hm, .inr ⟨g, 0, rfl, (Array.getElem?_eq_some_iff.1 hh).1, fun i hi => ?_⟩, (fun ad h => by cases h; exact hg), fun h => by cases h⟩
    have h2 := World.ownsRow.cellAt h i (by omega)
    rw [Nat.zero_add, h2]
    simp only [cellsN, List.getElem?_map, List.getElem?_eq_getElem hi, Option.map_some]
    unfold nAt
    rw [List.getD_eq_getElem?_getD, List.getElem?_eq_getElem hi]
    rfl
theorem OwnN.rd1 {w : World} {B : Nat} {a : Option Addr} {n cap : Nat} {ys : List Int} (h : OwnN w B (.slice a n cap) ys) : RdN w a ys := by
  obtain ⟨a', cap', e, _, _, hr, _⟩ := h.rd
  cases e
  exact hr
theorem OwnN.keep {w w' : World} {B : Nat} {v : Value} {ys : List Int} (h : OwnN w B v ys) (hs : ∀ g, v.ownBlock = some g → g < w.heap.size → w'.heap[g]? = w.heap[g]?) : OwnN w' B v ys := by
  obtain ⟨h1, h2 | ⟨g, cap, cur, rfl, hg, hh, r⟩⟩ := h
  · exact ⟨h1, .inl h2⟩
  · exact ⟨h1, .inr ⟨g, cap, cur, rfl, hg, (hs g rfl (Array.getElem?_eq_some_iff.1 hh).1).trans hh, r⟩⟩
theorem OwnN.later {w w' : World} {B : Nat} {v : Value} {ys : List Int} (h : OwnN w B v ys) (hb : Below w.heap.size w w') : OwnN w' B v ys := h.keep fun g _ hg => hb.block g hg
theorem OwnN.past {w w' : World} {B : Nat} {v : Value} {ys : List Int} {b : Nat} (h : OwnN w B v ys) (hb : w.grownBy w' (some b)) (hne : v.ownBlock ≠ some b) : OwnN w' B v ys :=
  h.keep fun g hv hg => hb.block g hg (by rw [← hv]; exact hne)
theorem OwnN.lt {w : World} {B : Nat} {v : Value} {ys : List Int} (h : OwnN w B v ys) {g : Nat} (hg : v.ownBlock = some g) : B ≤ g ∧ g < w.heap.size := World.ownsRow.lt h g hg
theorem OwnN.base {w : World} {B B' : Nat} {v : Value} {ys : List Int} (h : OwnN w B v ys) (hB : B' ≤ B) : OwnN w B' v ys := by
  obtain ⟨h1, h2 | ⟨g, cap, cur, e, hg, r⟩⟩ := h
  · exact ⟨h1, .inl h2⟩
  · exact ⟨h1, .inr ⟨g, cap, cur, e, Nat.le_trans hB hg, r⟩⟩
/-- An owned slice, written out: none, or in a block of its own. -/
theorem OwnN.form {w : World} {B : Nat} {v : Value} {ys : List Int} (h : OwnN w B v ys) : (v = .slice none 0 0 ∧ ys = []) ∨ ∃ g cap, v = .slice (some ⟨g, 0, none⟩) ys.length cap ∧ B ≤ g ∧ g < w.heap.size ∧ ys.length ≤ cap ∧ cap ≤ maxLen := by
  obtain ⟨_, ⟨h1, h2⟩ | ⟨g, cap, cur, rfl, hg, hh, hn, hm, r⟩⟩ := h
  · exact .inl ⟨h1, List.eq_nil_of_length_eq_zero h2⟩
  · exact .inr ⟨g, cap, rfl, hg, (Array.getElem?_eq_some_iff.1 hh).1, hn, hm⟩
theorem grownBy_trans {a b c : World} {r : Option Nat} (h : a.grownBy b r) (k : b.grownBy c r) : a.grownBy c r :=
  ⟨k.os.trans h.os, k.tape.trans h.tape, k.output.trans h.output, Nat.le_trans h.size k.size, fun j hj hn => (k.block j (Nat.lt_of_lt_of_le hj h.size) hn).trans (h.block j hj hn)⟩
theorem below_drewN {B : Nat} {a w : World} (h : Below B a w) (n : Nat) : Below B a (w.drewN n) := h.trans ⟨rfl, rfl, rfl, Nat.le_refl _, fun _ _ => rfl⟩
end Go.Proofs.Ytjpbjbnialehbaa

namespace Go.Proofs.Ytjpbjbnialehbaa
open Go.ChangeShapes Go.WideShapes Go.ChangeAt Go.RowKit
set_option linter.unusedVariables false
set_option maxRecDepth 8000
def IsRow (k : IntKind) (w : World) (a : Option Addr) (len cap : Nat) (zs : List Int) : Prop :=
  (a = none ∧ len = 0 ∧ cap = 0 ∧ zs = []) ∨
  ∃ x, a = some x ∧ len ≤ cap ∧ cap ≤ maxLen ∧ zs.length = cap ∧ (∀ i, i < zs.length → w.cell? (x.add i) = some (.int k (zs.getD i 0))) ∧ ∀ n ∈ zs, (Lit.int k n).wf = true
/-- A slice with address a reads as the bytes xs in the world w. -/
def Rd (w : World) (a : Option Addr) (xs : List UInt8) : Prop :=
  xs = [] ∨ ∃ b off, a = some ⟨b, off, none⟩ ∧ b < w.heap.size ∧ ∀ i, i < xs.length → w.cell? ⟨b, off + i, none⟩ = some (.int .u8 (bAt xs i))
theorem Rd.later {w w' : World} {a : Option Addr} {xs : List UInt8} (h : Rd w a xs) (hb : Below w.heap.size w w') : Rd w' a xs := by
  rcases h with h | ⟨b, off, ha, hlt, hc⟩
  · exact .inl h
  · exact .inr ⟨b, off, ha, Nat.lt_of_lt_of_le hlt hb.size, fun i hi => (hb.cell (p := ⟨b, off + i, none⟩) hlt).trans (hc i hi)⟩
theorem bytes_of_ints (zs : List Int) (h : ∀ n ∈ zs, (Lit.int .u8 n).wf = true) : ∃ xs : List UInt8, xs.length = zs.length ∧ ∀ i, i < zs.length → zs.getD i 0 = bAt xs i := by
  refine ⟨zs.map fun z => UInt8.ofNat z.toNat, by simp, fun i hi => ?_⟩
  have hb := bounds_u8 (h (zs.getD i 0) (by rw [List.getD_eq_getElem?_getD, List.getElem?_eq_getElem hi]; exact List.getElem_mem _))
  unfold bAt
  rw [List.getD_eq_getElem?_getD, List.getD_eq_getElem?_getD, List.getElem?_map, List.getElem?_eq_getElem hi] at *
  simp at hb ⊢
  omega
theorem rd_of_row {w : World} {a : Option Addr} {len cap : Nat} {zs : List Int} (h : IsRow .u8 w a len cap zs) :
    ∃ xs : List UInt8, xs.length = len ∧ len ≤ cap ∧ cap ≤ maxLen ∧ Rd w a xs := by
  rcases h with ⟨rfl, rfl, rfl, rfl⟩ | ⟨x, rfl, hl, hm, hz, hcell, hwz⟩
  · exact ⟨[], rfl, Nat.le_refl _, by unfold maxLen; omega, .inl rfl⟩
  · obtain ⟨ys, hy, hv⟩ := bytes_of_ints zs hwz
    refine ⟨ys.take len, by simp; omega, hl, hm, ?_⟩
    by_cases h0 : len = 0
    · left; simp [h0]
    · right
      obtain ⟨b, off, spot⟩ := x
      have h00 := hcell 0 (by omega)
      have hspot : spot = none := by simpa [Addr.add] using World.cell?_spot h00
      subst hspot
      refine ⟨b, off, rfl, World.block_lt_of_cell? w _ h00, fun i hi => ?_⟩
      have hi' : i < len := by simp at hi; omega
      have := hcell i (by omega)
      rw [hv i (by omega)] at this
      have e : bAt (ys.take len) i = bAt ys i := by
        unfold bAt
        rw [List.getD_eq_getElem?_getD, List.getD_eq_getElem?_getD, List.getElem?_take, if_pos hi']
      rw [e]
      exact (show w.cell? ⟨b, off + i, none⟩ = _ by have h2 := this; unfold Addr.add at h2; by_cases hi0 : i = 0 <;> simpa [hi0] using h2)
def cellsB (ys : List UInt8) : List Value := ys.map fun y => .int .u8 (y.toNat : Int)
/-- v is a slice of the call's own (blocks from B on) that holds the bytes ys. -/
def OwnB (w : World) (B : Nat) (v : Value) (ys : List UInt8) : Prop := w.ownsRow B 5 1 v ys.length (cellsB ys)
theorem Rd.alloc {w : World} {a : Option Addr} {xs : List UInt8} (h : Rd w a xs) (o : Obj) : Rd (w.alloc o) a xs := h.later ((Below.refl _ _).alloc (Nat.le_refl _) _)
theorem OwnB.rd {w : World} {B : Nat} {v : Value} {ys : List UInt8} (h : OwnB w B v ys) : ∃ a cap, v = .slice a ys.length cap ∧ ys.length ≤ cap ∧ cap ≤ maxLen ∧ Rd w a ys ∧ (∀ ad, a = some ad → B ≤ ad.block) ∧ (a = none → cap = 0) := by
  obtain ⟨_, ⟨rfl, h0⟩ | ⟨g, cap, cur, rfl, hg, hh, hn, hm, hs, ht⟩⟩ := id h
  · obtain rfl : ys = [] := List.eq_nil_of_length_eq_zero h0
    exact ⟨none, 0, rfl, Nat.le_refl _, Nat.zero_le _, .inl rfl, (fun _ h => by cases h), fun _ => rfl⟩
  · refine ⟨_, cap, rfl, hn, hm, .inr ⟨g, 0, rfl, (Array.getElem?_eq_some_iff.1 hh).1, fun i hi => ?_⟩, (fun ad h => by cases h; exact hg), fun h => by cases h⟩
    have h2 := World.ownsRow.cellAt h i (by omega)
    rw [Nat.zero_add, h2]
    simp only [cellsB, List.getElem?_map, List.getElem?_eq_getElem hi, Option.map_some]
    unfold bAt
    rw [List.getD_eq_getElem?_getD, List.getElem?_eq_getElem hi]
    rfl
theorem OwnB.rd1 {w : World} {B : Nat} {a : Option Addr} {n cap : Nat} {ys : List UInt8} (h : OwnB w B (.slice a n cap) ys) : Rd w a ys := by
  obtain ⟨a', cap', e, _, _, hr, _⟩ := h.rd
  cases e
  exact hr
theorem OwnB.keep {w w' : World} {B : Nat} {v : Value} {ys : List UInt8} (h : OwnB w B v ys) (hs : ∀ g, v.ownBlock = some g → g < w.heap.size → w'.heap[g]? = w.heap[g]?) : OwnB w' B v ys := by
  obtain ⟨h1, h2 | ⟨g, cap, cur, rfl, hg, hh, r⟩⟩ := h
  · exact ⟨h1, .inl h2⟩
  · exact ⟨h1, .inr ⟨g, cap, cur, rfl, hg, (hs g rfl (Array.getElem?_eq_some_iff.1 hh).1).trans hh, r⟩⟩
theorem OwnB.later {w w' : World} {B : Nat} {v : Value} {ys : List UInt8} (h : OwnB w B v ys) (hb : Below w.heap.size w w') : OwnB w' B v ys := h.keep fun g _ hg => hb.block g hg
theorem OwnB.past {w w' : World} {B : Nat} {v : Value} {ys : List UInt8} {b : Nat} (h : OwnB w B v ys) (hb : w.grownBy w' (some b)) (hne : v.ownBlock ≠ some b) : OwnB w' B v ys :=
  h.keep fun g hv hg => hb.block g hg (by rw [← hv]; exact hne)
theorem OwnB.lt {w : World} {B : Nat} {v : Value} {ys : List UInt8} (h : OwnB w B v ys) {g : Nat} (hg : v.ownBlock = some g) : B ≤ g ∧ g < w.heap.size := World.ownsRow.lt h g hg
/-- An owned slice that is not empty, written out. -/
theorem OwnB.form {w : World} {B : Nat} {v : Value} {ys : List UInt8} (h : OwnB w B v ys) (h0 : 0 < ys.length) : ∃ g cap, v = .slice (some ⟨g, 0, none⟩) ys.length cap ∧ B ≤ g ∧ g < w.heap.size ∧ ys.length ≤ cap ∧ cap ≤ maxLen := by
  obtain ⟨_, ⟨_, h2⟩ | ⟨g, cap, cur, rfl, hg, hh, hn, hm, r⟩⟩ := h
  · omega
  · exact ⟨g, cap, rfl, hg, (Array.getElem?_eq_some_iff.1 hh).1, hn, hm⟩
theorem Rd.past {w w' : World} {a : Option Addr} {xs : List UInt8} {b : Nat} (h : Rd w a xs) (hb : w.grownBy w' (some b)) (hne : ∀ ad, a = some ad → ad.block ≠ b) : Rd w' a xs := by
  rcases h with h | ⟨c, off, rfl, hlt, hc⟩
  · exact .inl h
  · exact .inr ⟨c, off, rfl, Nat.lt_of_lt_of_le hlt hb.size, fun i hi => (World.cell?_of_block (w := w) (hb.block c hlt (by have := hne _ rfl; simpa using this))).trans (hc i hi)⟩
theorem Rd.lt {w : World} {ad : Addr} {xs : List UInt8} (h : Rd w (some ad) xs) (h0 : 0 < xs.length) : ad.block < w.heap.size := by
  rcases h with rfl | ⟨c, off, e, hlt, _⟩
  · simp at h0
  · cases e; exact hlt
theorem i64_and255 (n : Int) : bits .and .i64 n 255 = n % 256 := by
  have h127 : (BitVec.ofInt 64 255).toNat = 2 ^ 8 - 1 := by decide
  have key : (BitVec.ofInt 64 n &&& BitVec.ofInt 64 255).toNat = (n % ((2 ^ 64 : Nat) : Int)).toNat % 2 ^ 8 := by
    rw [BitVec.toNat_and, BitVec.toNat_ofInt, h127, Nat.and_two_pow_sub_one_eq_mod]
  show IntKind.i64.wrap ((BitVec.ofInt 64 n &&& BitVec.ofInt 64 255).toNat : Nat) = n % 256
  rw [key, IntKind.wrap_i64]
  omega
/-- A cursor in block cb over a slice of bytes that reads as xs. -/
structure Cur (w : World) (cb : Nat) (a : Option Addr) (len cap : Nat) (xs : List UInt8) : Prop where
  c0 : w.cell? ⟨cb, 0, none⟩ = some (.slice a len cap)
  c1 : ∃ i : Nat, i ≤ len ∧ w.cell? ⟨cb, 1, none⟩ = some (.int .i64 i)
  c2 : ∃ h : Int, w.cell? ⟨cb, 2, none⟩ = some (.int .i64 h)
  f1 : w.frozen? ⟨cb, 1, none⟩ = false
  f2 : w.frozen? ⟨cb, 2, none⟩ = false
  rd : Rd w a xs
  ln : xs.length = len
  lm : len ≤ 9223372036854775806
  ne : xs = [] ∨ ∀ ad, a = some ad → ad.block ≠ cb
theorem Cur.lt {w : World} {cb : Nat} {a : Option Addr} {len cap : Nat} {xs : List UInt8} (h : Cur w cb a len cap xs) : cb < w.heap.size := World.block_lt_of_cell? w _ h.c0
theorem grownBy_set {w : World} {b o : Nat} (v : Value) : w.grownBy (w.setCell ⟨b, o, none⟩ v) (some b) :=
  ⟨rfl, rfl, rfl, by simp, fun k _ hk => Below.heap_setCell w ⟨b, o, none⟩ v k (fun e => hk (by simp [e]))⟩
theorem grownBy_drewN {w : World} (n : Nat) (r : Option Nat) : w.grownBy (w.drewN n) r := ⟨rfl, rfl, rfl, Nat.le_refl _, fun _ _ _ => rfl⟩
theorem Rd.past' {w w' : World} {a : Option Addr} {xs : List UInt8} {b : Nat} (h : Rd w a xs) (hb : w.grownBy w' (some b)) (hne : xs = [] ∨ ∀ ad, a = some ad → ad.block ≠ b) : Rd w' a xs := by
  rcases hne with h0 | hne
  · exact .inl h0
  · exact h.past hb hne
theorem Cur.draw {w : World} {cb : Nat} {a : Option Addr} {len cap : Nat} {xs : List UInt8} (h : Cur w cb a len cap xs) (n : Nat) : Cur (w.drewN n) cb a len cap xs :=
  ⟨h.c0, h.c1, h.c2, h.f1, h.f2, h.rd.later ⟨rfl, rfl, rfl, Nat.le_refl _, fun _ _ => rfl⟩, h.ln, h.lm, h.ne⟩
theorem Cur.set2 {w : World} {cb : Nat} {a : Option Addr} {len cap : Nat} {xs : List UInt8} (h : Cur w cb a len cap xs) (H : Int) : Cur (w.setCell ⟨cb, 2, none⟩ (.int .i64 H)) cb a len cap xs := by
  have hg : w.grownBy (w.setCell ⟨cb, 2, none⟩ (.int .i64 H)) (some cb) := grownBy_set _
  obtain ⟨c0, ⟨i, hi, c1⟩, ⟨h, c2⟩, f1, f2, rd, ln, lm, ne⟩ := h
  have rd' := rd.past' hg ne
  clear hg rd
  refine ⟨?_, ⟨i, hi, ?_⟩, ⟨H, ?_⟩, ?_, ?_, rd', ln, lm, ne⟩ <;> clear ne rd' <;> go_simp
theorem Cur.set1 {w : World} {cb : Nat} {a : Option Addr} {len cap : Nat} {xs : List UInt8} (h : Cur w cb a len cap xs) (j : Nat) (hj : j ≤ len) (v : Int) (hv : v = (j : Int)) : Cur (w.setCell ⟨cb, 1, none⟩ (.int .i64 v)) cb a len cap xs := by
  subst hv
  have hg : w.grownBy (w.setCell ⟨cb, 1, none⟩ (.int .i64 j)) (some cb) := grownBy_set _
  obtain ⟨c0, ⟨i, hi, c1⟩, ⟨h, c2⟩, f1, f2, rd, ln, lm, ne⟩ := h
  have rd' := rd.past' hg ne
  clear hg rd
  refine ⟨?_, ⟨j, hj, ?_⟩, ⟨h, ?_⟩, ?_, ?_, rd', ln, lm, ne⟩ <;> clear ne rd' <;> go_simp
set_option maxHeartbeats 800000 in
theorem byte_any (cb : Nat) (a : Option Addr) (len cap : Nat) (xs : List UInt8) (w : World) (hc : Cur w cb a len cap xs) :
    Calls Try.prog 59 #[.pointer (some ⟨cb, 0, none⟩)] w fun e w' => ∃ x : Int, 0 ≤ x ∧ x ≤ 255 ∧ e = .returned (.int .i64 x) ∧ Cur w' cb a len cap xs ∧ w.grownBy w' (some cb) := by
  have hcur := hide hc
  obtain ⟨c0, ⟨i, hi, c1⟩, ⟨h, c2⟩, f1, f2, rd, ln, lm, ne⟩ := hc
  by_cases hlt : i < len
  · rcases rd with rfl | ⟨b, off, rfl, hb, hcell⟩
    · simp at ln; omega
    have hne : b ≠ cb := by
      rcases ne with h0 | ne
      · rw [h0] at ln; simp at ln; omega
      · exact ne _ rfl
    have hil : (i : Int) < (len : Int) := by omega
    have hcx : ∀ v : Value, (w.setCell ⟨cb, 2, none⟩ v).cell? ⟨b, off + i, none⟩ = some (.int .u8 (bAt xs i)) := fun v => by
      rw [World.cell?_of_block (w := w) (Below.heap_setCell w _ v b hne)]; exact hcell i (by omega)
    have hbd := bAt_bd xs i
    have ne' := hide ne
    have hcell' := hide hcell
    clear ne hcell
    go_enter Try.func59, Try.ntmps59
    go_wp2
    generalize wrap64 (wrap64 (h * 6364136223846793005) + 1442695040888963407) = H
    go_quiet (fail)
    go_wp2
    go_quiet (fail)
    go_wp2
    go_quiet (fail)
    go_wp2
    go_ret
    refine ⟨_, ?_, ?_, rfl, ?_, ?_⟩
    · rw [i64_and255]; omega
    · rw [i64_and255]; omega
    · exact (((unhide hcur).set2 H).draw _).set1 (i + 1) hlt _ (by omega)
    · exact grownBy_trans (grownBy_trans (grownBy_set _) (grownBy_drewN _ _)) (grownBy_set _)
  · have hil : ¬ (i : Int) < (len : Int) := by omega
    have ne' := hide ne
    clear ne
    go_enter Try.func59, Try.ntmps59
    go_wp2
    generalize wrap64 (wrap64 (h * 6364136223846793005) + 1442695040888963407) = H
    go_quiet (fail)
    go_wp2
    go_quiet (fail)
    go_wp2
    go_ret
    refine ⟨_, ?_, ?_, rfl, ?_, ?_⟩
    · rw [i64_and255]; omega
    · rw [i64_and255]; omega
    · exact (((unhide hcur).set2 H).draw _).draw _
    · exact grownBy_trans (grownBy_trans (grownBy_set _) (grownBy_drewN _ _)) (grownBy_drewN _ _)
theorem Cur.code {w : World} {cb : Nat} {a : Option Addr} {len cap : Nat} {xs : List UInt8} (h : Cur w cb a len cap xs) : xs = [] ∨ ∀ ad, a = some ad → ad.block < w.heap.size := by
  rcases h.rd with h0 | ⟨b, off, rfl, hb, _⟩
  · exact .inl h0
  · exact .inr fun ad e => by cases e; exact hb
theorem Cur.past {w w' : World} {cb : Nat} {a : Option Addr} {len cap : Nat} {xs : List UInt8} {row : Option Nat} {B : Nat} (h : Cur w cb a len cap xs) (hg : w.grownBy w' row) (hB : cb < B) (hc : xs = [] ∨ ∀ ad, a = some ad → ad.block < B) (hr : ∀ g, row = some g → B ≤ g) : Cur w' cb a len cap xs := by
  have hlt := h.lt
  have hb : w'.heap[cb]? = w.heap[cb]? := hg.block cb hlt (fun e => by have := hr cb e.symm; omega)
  have hcell : ∀ o, w'.cell? ⟨cb, o, none⟩ = w.cell? ⟨cb, o, none⟩ := fun o => World.cell?_of_block (w := w) hb
  have hfr : ∀ o, w'.frozen? ⟨cb, o, none⟩ = w.frozen? ⟨cb, o, none⟩ := fun o => World.frozen?_of_block (w := w) hb
  refine ⟨(hcell 0).trans h.c0, ?_, ?_, (hfr 1).trans h.f1, (hfr 2).trans h.f2, ?_, h.ln, h.lm, h.ne⟩
  · obtain ⟨i, hi, c1⟩ := h.c1; exact ⟨i, hi, (hcell 1).trans c1⟩
  · obtain ⟨i, c2⟩ := h.c2; exact ⟨i, (hcell 2).trans c2⟩
  · rcases hc with h0 | hc
    · exact .inl h0
    · rcases h.rd with h0 | ⟨b, off, ha, hbl, hcl⟩
      · exact .inl h0
      · refine .inr ⟨b, off, ha, Nat.lt_of_lt_of_le hbl hg.size, fun i hi => ?_⟩
        refine (World.cell?_of_block (w := w) (hg.block b hbl (fun e => ?_))).trans (hcl i hi)
        have h1 := hr b e.symm
        have h2 := hc _ ha
        simp at h2
        omega
theorem Cur.later {w w' : World} {cb : Nat} {a : Option Addr} {len cap : Nat} {xs : List UInt8} (h : Cur w cb a len cap xs) (hb : Below w.heap.size w w') : Cur w' cb a len cap xs :=
  h.past (row := none) (B := w.heap.size) ⟨hb.os, hb.tape, hb.output, hb.size, fun k hk _ => hb.block k hk⟩ h.lt h.code (fun g e => by cases e)
theorem grownBy_below {w w' : World} {r : Option Nat} (hb : Below w.heap.size w w') : w.grownBy w' r := ⟨hb.os, hb.tape, hb.output, hb.size, fun k hk _ => hb.block k hk⟩
theorem grownBy_own {w w1 w2 : World} {r row : Option Nat} (h : w.grownBy w1 r) (k : w1.grownBy w2 row) (hr : ∀ g, row = some g → w.heap.size ≤ g) : w.grownBy w2 r :=
  ⟨k.os.trans h.os, k.tape.trans h.tape, k.output.trans h.output, Nat.le_trans h.size k.size, fun j hj hn => (k.block j (Nat.lt_of_lt_of_le hj h.size) (fun e => by have := hr j e.symm; omega)).trans (h.block j hj hn)⟩
set_option maxHeartbeats 400000 in
theorem below_any (cb : Nat) (a : Option Addr) (len cap : Nat) (xs : List UInt8) (n : Int) (w : World) (h63 : n ≤ 9223372036854775807) (hc : Cur w cb a len cap xs) :
    Calls Try.prog 39 #[.pointer (some ⟨cb, 0, none⟩), .int .i64 n] w fun e w' => ∃ x : Int, (0 < n → 0 ≤ x ∧ x < n) ∧ (n ≤ 0 → x = 0) ∧ e = .returned (.int .i64 x) ∧ Cur w' cb a len cap xs ∧ w.grownBy w' (some cb) := by
  by_cases h0 : n ≤ 0
  · go_enter Try.func39, Try.ntmps39
    go_wp2
    go_ret
    exact ⟨0, fun h => by omega, fun _ => rfl, rfl, hc, World.grownBy.refl _ _⟩
  · by_cases h1 : n ≤ 256
    · have hp : 0 < n := by omega
      go_enter Try.func39, Try.ntmps39
      go_wp2_with fail
      refine (byte_any cb a len cap xs w hc).mono ?_
      rintro e w1 ⟨x, hx0, hx1, rfl, hc1, hg1⟩
      go_wp2
      go_ret
      exact ⟨_, fun _ => ⟨Int.emod_nonneg _ (by omega), Int.emod_lt_of_pos _ hp⟩, fun h => by omega, rfl, hc1, hg1⟩
    · have hp : 0 < n := by omega
      go_enter Try.func39, Try.ntmps39
      go_wp2_with fail
      refine (byte_any cb a len cap xs w hc).mono ?_
      rintro e w1 ⟨x, hx0, hx1, rfl, hc1, hg1⟩
      go_wp2_with fail
      refine (byte_any cb a len cap xs w1 hc1).mono ?_
      rintro e w2 ⟨y, hy0, hy1, rfl, hc2, hg2⟩
      go_wp2_with fail
      refine (byte_any cb a len cap xs w2 hc2).mono ?_
      rintro e w3 ⟨z, hz0, hz1, rfl, hc3, hg3⟩
      go_wp2
      go_ret
      exact ⟨_, fun _ => ⟨Int.emod_nonneg _ (by omega), Int.emod_lt_of_pos _ hp⟩, fun h => by omega, rfl, hc3, grownBy_trans (grownBy_trans hg1 hg2) hg3⟩
set_option maxHeartbeats 400000 in
theorem once_any (cb : Nat) (a : Option Addr) (len cap : Nat) (xs : List UInt8) (n : Int) (w : World) (h63 : n ≤ 9223372036854775807) (hc : Cur w cb a len cap xs) :
    Calls Try.prog 38 #[.pointer (some ⟨cb, 0, none⟩), .int .i64 n] w fun e w' => ∃ b : Bool, e = .returned (.bool b) ∧ Cur w' cb a len cap xs ∧ w.grownBy w' (some cb) := by
  go_enter Try.func38, Try.ntmps38
  go_wp2_with fail
  refine (below_any cb a len cap xs n w h63 hc).mono ?_
  rintro e w1 ⟨x, hx0, hx1, rfl, hc1, hg1⟩
  go_wp2
  go_ret
  exact ⟨_, rfl, hc1, hg1⟩
theorem RdN.past {w w' : World} {a : Option Addr} {ns : List Int} {b : Nat} (h : RdN w a ns) (hb : w.grownBy w' (some b)) (hne : ∀ ad, a = some ad → ad.block ≠ b) : RdN w' a ns := by
  rcases h with h | ⟨c, off, rfl, hlt, hc⟩
  · exact .inl h
  · exact .inr ⟨c, off, rfl, Nat.lt_of_lt_of_le hlt hb.size, fun i hi => (World.cell?_of_block (w := w) (hb.block c hlt (by have := hne _ rfl; simpa using this))).trans (hc i hi)⟩
set_option maxHeartbeats 400000 in
theorem int_any (cb : Nat) (a : Option Addr) (len cap : Nat) (xs : List UInt8) (la : Option Addr) (m lc : Nat) (ns : List Int) (w : World) (hc : Cur w cb a len cap xs) (hn : RdN w la ns) (hne : ∀ ad, la = some ad → ad.block ≠ cb) (hm : ns.length = m) (h0 : 0 < m) (hb : m ≤ 1048576) :
    Calls Try.prog 58 #[.pointer (some ⟨cb, 0, none⟩), .slice la m lc] w fun e w' => ∃ j : Nat, j < m ∧ e = .returned (.int .i64 (nAt ns j)) ∧ Cur w' cb a len cap xs ∧ w.grownBy w' (some cb) := by
  rcases hn with rfl | ⟨b, off, rfl, hlt, hcl⟩
  · simp at hm; omega
  go_enter Try.func58, Try.ntmps58
  go_wp2_with fail
  refine (below_any cb a len cap xs m w (by omega) hc).mono ?_
  rintro e w1 ⟨x, hx0, hx1, rfl, hc1, hg1⟩
  obtain ⟨hx2, hx3⟩ := hx0 (by omega)
  obtain ⟨j, rfl⟩ := Int.eq_ofNat_of_zero_le hx2
  have hj : j < m := by omega
  have hcx : w1.cell? ⟨b, off + j, none⟩ = some (.int .i64 (nAt ns j)) := (World.cell?_of_block (w := w) (hg1.block b hlt (by have := hne _ rfl; simpa using this))).trans (hcl j (by omega))
  clear hx0 hx1 hcl
  go_wp2
  go_ret
  exact ⟨j, hj, rfl, hc1, hg1⟩
theorem i64_and30 (n : Int) : bits .and .i64 n 1073741823 = n % 1073741824 := by
  have h127 : (BitVec.ofInt 64 1073741823).toNat = 2 ^ 30 - 1 := by decide
  have key : (BitVec.ofInt 64 n &&& BitVec.ofInt 64 1073741823).toNat = (n % ((2 ^ 64 : Nat) : Int)).toNat % 2 ^ 30 := by
    rw [BitVec.toNat_and, BitVec.toNat_ofInt, h127, Nat.and_two_pow_sub_one_eq_mod]
  show IntKind.i64.wrap ((BitVec.ofInt 64 n &&& BitVec.ofInt 64 1073741823).toNat : Nat) = n % 1073741824
  rw [key, IntKind.wrap_i64]
  omega
theorem cur_new (w : World) (a : Option Addr) (len cap : Nat) (xs : List UInt8) (h : Int) (hl : xs.length = len) (hm : len ≤ 1048576) (hr : Rd w a xs) :
    Cur (w.alloc (.cells #[.slice a len cap, .int .i64 0, .int .i64 h] 82)) w.heap.size a len cap xs := by
  have hr' := hr.alloc (.cells #[.slice a len cap, .int .i64 0, .int .i64 h] 82)
  have hne : xs = [] ∨ ∀ ad, a = some ad → ad.block ≠ w.heap.size := by
    rcases hr with h0 | ⟨b, off, rfl, hb, _⟩
    · exact .inl h0
    · exact .inr fun ad e => by cases e; exact Nat.ne_of_lt hb
  clear hr
  refine ⟨?_, ⟨0, Nat.zero_le _, ?_⟩, ⟨h, ?_⟩, ?_, ?_, hr', hl, by omega, hne⟩ <;> clear hr' hne <;> go_simp
set_option maxRecDepth 100000 in
set_option maxHeartbeats 400000 in
theorem new_any (a : Option Addr) (len cap : Nat) (xs : List UInt8) (w : World) (hl : xs.length = len) (hm : len ≤ 1048576) (hr : Rd w a xs) :
    Calls Try.prog 34 #[.slice a len cap] w fun e w' => e = .returned (.pointer (some ⟨w.heap.size, 0, none⟩)) ∧ Cur w' w.heap.size a len cap xs ∧ Below w.heap.size w w' := by
  go_enter Try.func34, Try.ntmps34
  go_wp2
  go_loop [3, 4] (fun n i => ∃ (k : Nat) (h : Int), k ≤ len ∧ 0 ≤ h ∧ h ≤ 1073741823 ∧ i = .int .i64 k ∧ n = .int .i64 h) (fun _ i => len - (intOf i).toNat)
  case atStart => exact ⟨0, _, Nat.zero_le _, by omega, by omega, rfl, rfl⟩
  case round =>
    obtain ⟨k, h, hk, hh0, hh1, rfl, rfl⟩ := hrel
    by_cases hlt : k < len
    · by_cases h4 : k < 4000
      · have hr0 := hr
        rcases hr with rfl | ⟨b, off, rfl, hb, hc⟩
        · simp at hl; omega
        have hcx := hc k (by omega)
        have hbd := bAt_bd xs k
        clear hc hr0
        go_wp2
        go_round
        case rel => exact ⟨k + 1, _, by omega, by rw [i64_and30]; omega, by rw [i64_and30]; omega, by go_num, rfl⟩
        case measure => simp [intOf]; omega
      · go_wp2
        go_ret
        exact ⟨rfl, cur_new w a len cap xs h hl hm hr, (Below.refl _ _).alloc (Nat.le_refl _) _⟩
    · go_wp2
      go_ret
      exact ⟨rfl, cur_new w a len cap xs h hl hm hr, (Below.refl _ _).alloc (Nat.le_refl _) _⟩
theorem RdN_lit (w : World) (ns : List Int) : RdN (w.alloc (.cells (ns.map (Value.int .i64)).toArray 3)) (some ⟨w.heap.size, 0, none⟩) ns := by
  refine .inr ⟨w.heap.size, 0, rfl, by simp, fun i hi => ?_⟩
  rw [World.cell?_alloc_at _ _ _ _ rfl]
  simp [nAt, hi]
theorem big_any (a : Option Addr) (len cap : Nat) (w : World) (hm : len ≤ 9223372036854775807) : Calls Try.prog 7 #[.slice a len cap] w fun e w' => e = .returned (.bool (decide ((1048576 : Int) < (len : Int)))) ∧ w' = w := by
  go_enter Try.func7, Try.ntmps7
  go_wp2
  go_ret
  exact ⟨rfl, rfl⟩
end Go.Proofs.Ytjpbjbnialehbaa

namespace Go.Proofs.Ytjpbjbnialehbaa
open Go.ChangeShapes Go.WideShapes Go.ChangeAt Go.RowKit
set_option linter.unusedVariables false
set_option maxRecDepth 8000
def baseL : List Int := [0, 4096, 8192, 16384, 20480, 24576, 57344, 2560, 2688, 2752, 2816, 3008, 3200, 3264, 64, 2048, 128, 256, 512, 768, 1024, 1280, 0, 34816]
def baseAt (k : Nat) : Int := baseL.getD k 0
theorem base_bd : ∀ i : Fin 24, 0 ≤ baseAt i.val ∧ baseAt i.val ≤ 57344 := by decide +kernel
theorem base_lit (k : Nat) (hk : k < 24) : ((baseL.map (Value.int .i64)).toArray)[k]? = some (.int .i64 (baseAt k)) := by
  rw [List.getElem?_toArray, List.getElem?_map]
  have : k < baseL.length := hk
  rw [List.getElem?_eq_getElem this]
  unfold baseAt
  rw [List.getD_eq_getElem?_getD, List.getElem?_eq_getElem this]
  rfl
set_option maxHeartbeats 1000000 in
theorem base_any (k : Nat) (hk : k < 24) (w : World) : Calls Try.prog 72 #[.int .i64 k] w fun e w' => e = .returned (.int .i64 (baseAt k)) ∧ Below w.heap.size w w' := by
  have hl := hide (base_lit k hk)
  go_enter Try.func72, Try.ntmps72
  go_wp2
  go_ret
  have hl2 := unhide hl
  rw [List.getElem?_toArray] at hl2
  obtain ⟨_, hv⟩ := List.getElem?_eq_some_iff.1 hl2
  exact ⟨congrArg Ending.returned hv, (Below.refl _ _).alloc (Nat.le_refl _) _⟩
def Od.six (o : Od) : Int := o.m * 8 + o.r
set_option maxHeartbeats 1000000 in
theorem six_any (o : Od) (h : 0 ≤ o.m ∧ o.m ≤ 7 ∧ 0 ≤ o.r ∧ o.r ≤ 7) (w : World) : Calls Try.prog 73 #[o.v] w fun e w' => e = .returned (.int .i64 o.six) ∧ Below w.heap.size w w' := by
  obtain ⟨m, r, x⟩ := o
  unfold Od.v Od.six
  simp only at h ⊢
  go_enter Try.func73, Try.ntmps73
  go_wp2
  go_ret
  exact ⟨rfl, (Below.refl _ _).alloc (Nat.le_refl _) _⟩
end Go.Proofs.Ytjpbjbnialehbaa

namespace Go.Proofs.Ytjpbjbnialehbaa
open Go.ChangeShapes Go.WideShapes Go.ChangeAt Go.RowKit
set_option linter.unusedVariables false
set_option maxRecDepth 8000
def Is.code (i : Is) : Int :=
  if i.op ≤ 6 then baseAt i.op.toNat + i.s.six * 64 + i.d.six
  else if i.op ≤ 14 then baseAt i.op.toNat + i.d.six
  else if i.op = 15 then baseAt i.op.toNat + i.n * 64 + i.d.six
  else if i.op = 16 ∨ i.op = 23 then baseAt i.op.toNat + i.n
  else if i.op ≤ 21 then baseAt i.op.toNat + i.n % 256
  else baseAt i.op.toNat
def Is.xs (i : Is) : List Int := (if i.op ≤ 6 ∧ i.s.hasX = true then [i.s.x] else []) ++ (if i.op ≤ 15 ∧ i.d.hasX = true then [i.d.x] else [])
def Is.enc (i : Is) : List Int := if i.ok = true then i.code :: i.xs else []
theorem od_ok {o : Od} (h : o.ok = true) : (0 ≤ o.m ∧ o.m ≤ 7 ∧ 0 ≤ o.r ∧ o.r ≤ 7) ∧ 0 ≤ o.x ∧ o.x ≤ 65535 ∧ (o.hasX = true ∨ o.x = 0) := by
  unfold Od.ok inB at h
  simp only [Bool.and_eq_true, Bool.or_eq_true, decide_eq_true_eq, beq_iff_eq] at h
  obtain ⟨⟨⟨⟨h1, h2⟩, h3, h4⟩, h5, h6⟩, h7⟩ := h
  exact ⟨⟨h1, h2, h3, h4⟩, h5, h6, h7⟩
theorem is_ok {i : Is} (h : i.ok = true) : (1 ≤ i.op ∧ i.op ≤ 23) ∧ (i.op ≤ 6 → i.s.ok = true) ∧ (i.op ≤ 15 → i.d.ok = true) ∧ (6 < i.op → i.s.zero = true) ∧ (15 < i.op → i.d.zero = true) ∧ (-128 ≤ i.n ∧ i.n ≤ 255) ∧ ((i.op ≤ 14 ∨ i.op = 22) → i.n = 0) ∧ ((i.op = 15 ∨ i.op = 16) → 0 ≤ i.n ∧ i.n ≤ 7) ∧ (17 ≤ i.op ∧ i.op ≤ 21 → i.n ≤ 127) ∧ (i.op = 23 → 0 ≤ i.n) := by
  unfold Is.ok at h
  simp only [inB, Bool.and_eq_true, decide_eq_true_eq, beq_iff_eq, Bool.or_eq_true, Bool.not_eq_true'] at h
  split at h
  · simp only [Bool.and_eq_true, beq_iff_eq] at h
    obtain ⟨⟨h1, h2⟩, h3⟩ := h
    refine ⟨by omega, fun _ => h1, fun _ => h2, fun _ => by omega, fun _ => by omega, by omega, fun _ => h3, fun _ => by omega, fun _ => by omega, fun _ => by omega⟩
  split at h
  · simp only [Bool.and_eq_true, beq_iff_eq] at h
    obtain ⟨⟨h1, h2⟩, h3⟩ := h
    refine ⟨by omega, fun _ => by omega, fun _ => h2, fun _ => h1, fun _ => by omega, by omega, fun _ => h3, fun _ => by omega, fun _ => by omega, fun _ => by omega⟩
  split at h
  · simp only [Bool.and_eq_true, decide_eq_true_eq] at h
    obtain ⟨⟨h1, h2⟩, h3⟩ := h
    refine ⟨by omega, fun _ => by omega, fun _ => h2, fun _ => h1, fun _ => by omega, by omega, fun _ => by omega, fun _ => by omega, fun _ => by omega, fun _ => by omega⟩
  split at h
  · cases h
  rename_i hz
  have hs : i.s.zero = true := by cases e : i.s.zero <;> simp_all
  have hd : i.d.zero = true := by cases e : i.d.zero <;> simp_all
  clear hz
  split at h
  · simp only [Bool.and_eq_true, decide_eq_true_eq] at h
    refine ⟨by omega, fun _ => by omega, fun _ => by omega, fun _ => hs, fun _ => hd, by omega, fun _ => by omega, fun _ => by omega, fun _ => by omega, fun _ => by omega⟩
  split at h
  · simp only [Bool.and_eq_true, decide_eq_true_eq] at h
    refine ⟨by omega, fun _ => by omega, fun _ => by omega, fun _ => hs, fun _ => hd, by omega, fun _ => by omega, fun _ => by omega, fun _ => by omega, fun _ => by omega⟩
  split at h
  · simp only [beq_iff_eq] at h
    refine ⟨by omega, fun _ => by omega, fun _ => by omega, fun _ => hs, fun _ => hd, by omega, fun _ => by omega, fun _ => by omega, fun _ => by omega, fun _ => by omega⟩
  split at h
  · simp only [Bool.and_eq_true, decide_eq_true_eq] at h
    refine ⟨by omega, fun _ => by omega, fun _ => by omega, fun _ => hs, fun _ => hd, by omega, fun _ => by omega, fun _ => by omega, fun _ => by omega, fun _ => by omega⟩
  · cases h
theorem alloc_cell {w : World} {p : Addr} {v : Value} (h : w.cell? p = some v) (o : Obj) : (w.alloc o).cell? p = some v :=
  ((Below.refl w.heap.size w).alloc (Nat.le_refl _) o).cell (World.block_lt_of_cell? w _ h) |>.trans h
theorem box_step {B : Nat} {W w1 w2 : World} (h : Below B W w1) (hz : W.heap.size = B) (hb : Below w1.heap.size w1 w2) : Below B W w2 := h.trans (hb.mono (by have := h.size; omega))
theorem box_stepd {B : Nat} {W w1 w2 : World} (h : Below B W w1) (hz : W.heap.size = B) (hb : Below w1.drew.heap.size w1.drew w2) : Below B W w2 := box_step h hz ⟨hb.os, hb.tape, hb.output, hb.size, hb.block⟩
theorem box_app {B C : Nat} {W w3 w4 : World} {v : Value} {ns : List Int} (h : Below B W w3) (hz : W.heap.size = B) (o : Obj) (hg : (w3.alloc o).grownBy w4 v.ownBlock) (ho : OwnN w3 C v ns) (hC : B ≤ C) : Below B W w4 :=
  (h.alloc (by have := h.size; omega) o).grown hg (by have := h.size; simp; omega) (fun k e => Nat.le_trans hC (ho.lt e).1)
theorem own_one (w : World) (x : Int) : OwnN (w.alloc (.cells #[.int .i64 x] 3)) w.heap.size (.slice (some ⟨w.heap.size, 0, none⟩) 1 1) [x] :=
  ⟨rfl, .inr ⟨w.heap.size, 1, _, rfl, Nat.le_refl _, Array.getElem?_push_size, Nat.le_refl _, by unfold maxLen; omega, rfl, rfl⟩⟩
end Go.Proofs.Ytjpbjbnialehbaa

namespace Go.Proofs.Ytjpbjbnialehbaa
open Go.ChangeShapes Go.WideShapes Go.ChangeAt Go.RowKit
set_option linter.unusedVariables false
set_option maxRecDepth 8000
set_option linter.unusedSimpArgs false
theorem row3_heap {w : World} {b t : Nat} {l : List Int} (h : w.rowIs b t 3 (c8 l)) : w.heap[b]? = some (.cells #[c8 l 0, c8 l 1, c8 l 2] t (0, 0)) := by
  obtain ⟨c, hc, hs, hv⟩ := h
  rw [hc]
  have : c = #[c8 l 0, c8 l 1, c8 l 2] := by
    apply Array.ext_getElem?
    intro i
    by_cases hi : i < 3
    · rw [hv i hi]
      rcases i with _ | _ | _ | i
      · rfl
      · rfl
      · rfl
      · omega
    · rw [Array.getElem?_eq_none (by omega), Array.getElem?_eq_none (by simp; omega)]
  rw [this]
/-- The cursor and an answer's block, while draws go on. -/
structure Ez (w wr : World) (cb : Nat) (a : Option Addr) (len cap : Nat) (xs : List UInt8) (t n : Nat) (r : Nat → Value) : Prop where
  cur : Cur wr cb a len cap xs
  gr : w.grownBy wr (some cb)
  res : wr.rowIs w.heap.size t n r
  lt : cb < w.heap.size
  cd : xs = [] ∨ ∀ ad, a = some ad → ad.block < w.heap.size
section
variable {w wr w' : World} {cb : Nat} {a : Option Addr} {len cap : Nat} {xs : List UInt8} {t n : Nat} {r f : Nat → Value}
theorem ez_new (hc : Cur w cb a len cap xs) (c : Array Value) (t n : Nat) (r : Nat → Value) (h : (w.alloc (.cells c t)).rowIs w.heap.size t n r) : Ez w (w.alloc (.cells c t)) cb a len cap xs t n r :=
  ⟨hc.later ((Below.refl _ _).alloc (Nat.le_refl _) _), grownBy_below ((Below.refl _ _).alloc (Nat.le_refl _) _), h, hc.lt, hc.code⟩
theorem Ez.size (h : Ez w wr cb a len cap xs t n r) : w.heap.size ≤ wr.heap.size := h.gr.size
theorem Ez.draw (h : Ez w wr cb a len cap xs t n r) (hc : Cur w' cb a len cap xs) (hg : wr.grownBy w' (some cb)) : Ez w w' cb a len cap xs t n r :=
  ⟨hc, grownBy_trans h.gr hg, h.res.of_block (hg.block _ h.res.lt (fun e => by have := h.lt; simp at e; omega)), h.lt, h.cd⟩
theorem Ez.later (h : Ez w wr cb a len cap xs t n r) (hb : Below wr.heap.size wr w') : Ez w w' cb a len cap xs t n r :=
  h.draw (h.cur.later hb) (grownBy_below hb)
theorem Ez.alloc (h : Ez w wr cb a len cap xs t n r) (o : Obj) : Ez w (wr.alloc o) cb a len cap xs t n r :=
  h.later ((Below.refl _ _).alloc (Nat.le_refl _) o)
theorem Ez.setO (h : Ez w wr cb a len cap xs t n r) {bx : Nat} (hb : w.heap.size < bx) (k : Nat) (v : Value) : Ez w (wr.setCell ⟨bx, k, none⟩ v) cb a len cap xs t n r :=
  ⟨h.cur.past (grownBy_set v) h.lt h.cd (fun g e => by cases e; omega), grownBy_own h.gr (grownBy_set v) (fun g e => by cases e; omega), h.res.of_block (Below.heap_setCell _ _ _ _ (by show w.heap.size ≠ bx; omega)), h.lt, h.cd⟩
theorem Ez.setR (h : Ez w wr cb a len cap xs t n r) (k : Nat) (v : Value) (r' : Nat → Value) (he : (wr.setCell ⟨w.heap.size, k, none⟩ v).rowIs w.heap.size t n r') : Ez w (wr.setCell ⟨w.heap.size, k, none⟩ v) cb a len cap xs t n r' :=
  ⟨h.cur.past (grownBy_set v) h.lt h.cd (fun g e => by cases e; omega), grownBy_own h.gr (grownBy_set v) (fun g e => by cases e; omega), he, h.lt, h.cd⟩
theorem row_draw {bx : Nat} (h : wr.rowIs bx t n f) (hg : wr.grownBy w' (some cb)) (hne : cb < bx) : w'.rowIs bx t n f :=
  h.of_block (hg.block _ h.lt (fun e => by simp at e; omega))
theorem row_later {bx : Nat} (h : wr.rowIs bx t n f) (hb : Below wr.heap.size wr w') : w'.rowIs bx t n f := h.of_block (hb.block _ h.lt)
theorem row_alloc {bx : Nat} (h : wr.rowIs bx t n f) (o : Obj) : (wr.alloc o).rowIs bx t n f := row_later h ((Below.refl _ _).alloc (Nat.le_refl _) o)
end
theorem row3_set {w : World} {b t : Nat} {l l' : List Int} (h : w.rowIs b t 3 (c8 l)) (k : Nat) (x : Int) (he : ∀ j, j < 3 → (if j = k then Value.int .i64 x else c8 l j) = c8 l' j) : (w.setCell ⟨b, k, none⟩ (.int .i64 x)).rowIs b t 3 (c8 l') :=
  (h.set k (.int .i64 x)).congr (fun j hj => he j hj)
theorem row3_new (w : World) (l : List Int) (t : TypeId) : (w.alloc (Obj.cells #[c8 l 0, c8 l 1, c8 l 2] t)).rowIs w.heap.size t 3 (c8 l) :=
  ⟨_, Array.getElem?_push_size, rfl, fun i hi => by rcases i with _ | _ | _ | i <;> first | rfl | omega⟩
set_option maxHeartbeats 1000000 in
theorem word_any (cb : Nat) (a : Option Addr) (len cap : Nat) (xs : List UInt8) (w : World) (hc : Cur w cb a len cap xs) :
    Calls Try.prog 65 #[.pointer (some ⟨cb, 0, none⟩)] w fun e w' => ∃ x : Int, 0 ≤ x ∧ x ≤ 65535 ∧ e = .returned (.int .i64 x) ∧ Cur w' cb a len cap xs ∧ w.grownBy w' (some cb) := by
  have B0 := hide (below_any cb a len cap xs 65536 w (by omega) hc)
  have hlt := hc.lt
  clear hc
  go_enter Try.func65, Try.ntmps65
  go_wp2_with fail
  refine (unhide B0).mono ?_
  rintro e w1 ⟨y, hy0, hy1, rfl, hc1, hg1⟩
  obtain ⟨hy2, hy3⟩ := hy0 (by omega)
  clear hy0 hy1 B0
  have s1 := hg1.size
  have I1 := hide (int_any cb a len cap xs (some ⟨w1.heap.size, 0, none⟩) 11 11 [0, 1, 2, 3, 5, 8, 255, 32767, 32768, 65535, y] (w1.alloc (.cells ([0, 1, 2, 3, 5, 8, 255, 32767, 32768, 65535, y].map (Value.int .i64)).toArray 3)) (hc1.later ((Below.refl _ _).alloc (Nat.le_refl _) _)) (RdN_lit w1 _) (fun ad e => by cases e; show w1.heap.size ≠ cb; omega) rfl (by omega) (by omega))
  have G1 := hide (grownBy_trans hg1 (grownBy_below ((Below.refl w1.heap.size w1).alloc (Nat.le_refl _) (.cells ([0, 1, 2, 3, 5, 8, 255, 32767, 32768, 65535, y].map (Value.int .i64)).toArray 3))))
  clear hc1 hg1
  go_wp2_with fail
  refine (unhide I1).mono ?_
  rintro e w2 ⟨j, hj, rfl, hc2, hg2⟩
  have hb : 0 ≤ nAt [0, 1, 2, 3, 5, 8, 255, 32767, 32768, 65535, y] j ∧ nAt [0, 1, 2, 3, 5, 8, 255, 32767, 32768, 65535, y] j ≤ 65535 := by
    obtain rfl | rfl | rfl | rfl | rfl | rfl | rfl | rfl | rfl | rfl | rfl : j = 0 ∨ j = 1 ∨ j = 2 ∨ j = 3 ∨ j = 4 ∨ j = 5 ∨ j = 6 ∨ j = 7 ∨ j = 8 ∨ j = 9 ∨ j = 10 := by omega
    all_goals simp [nAt]
    omega
  generalize nAt [0, 1, 2, 3, 5, 8, 255, 32767, 32768, 65535, y] j = x at hb ⊢
  have G2 := hide (grownBy_trans (unhide G1) hg2)
  have C2 := hide hc2
  clear hc2 hg2 I1 G1
  go_wp2
  go_ret
  exact ⟨x, hb.1, hb.2, rfl, unhide C2, unhide G2⟩
end Go.Proofs.Ytjpbjbnialehbaa

namespace Go.Proofs.Ytjpbjbnialehbaa
open Go.ChangeShapes Go.WideShapes Go.ChangeAt Go.RowKit
set_option linter.unusedVariables false
set_option maxRecDepth 8000
set_option maxHeartbeats 400000 in
theorem sameInts_any (a b : Option Addr) (len c1 c2 : Nat) (xs : List Int) (w : World) (hl : xs.length = len) (hm : len ≤ 1099511627776) (h1 : RdN w a xs) (h2 : RdN w b xs) :
    Calls Try.prog 53 #[.slice a len c1, .slice b len c2] w fun e w' => e = .returned (.bool true) ∧ Below w.heap.size w w' := by
  go_enter Try.func53, Try.ntmps53
  go_wp2
  go_loopw [5] (fun i wr => ∃ k : Nat, k ≤ len ∧ i = .int .i64 k ∧ Below w.heap.size w wr) (fun i _ => len - (intOf i).toNat)
  case atStart => exact ⟨0, Nat.zero_le _, rfl, Below.refl _ _⟩
  case round =>
    obtain ⟨k, hk, rfl, hbel⟩ := hrel
    by_cases hlt : k < len
    · rcases h1 with rfl | ⟨p, po, rfl, hp, hpc⟩
      · simp at hl; omega
      rcases h2 with h0 | ⟨q, qo, rfl, hq, hqc⟩
      · rw [h0] at hl; simp at hl; omega
      have e1 : wr.cell? ⟨p, po + k, none⟩ = some (.int .i64 (nAt xs k)) := (hbel.cell (p := ⟨p, po + k, none⟩) hp).trans (hpc k (by omega))
      have e2 : wr.cell? ⟨q, qo + k, none⟩ = some (.int .i64 (nAt xs k)) := (hbel.cell (p := ⟨q, qo + k, none⟩) hq).trans (hqc k (by omega))
      clear hpc hqc
      go_wp2_with fail
      go_quiet (fail)
      go_wp2
      go_roundw
      case rel => exact ⟨k + 1, by omega, by go_num, below_drewN hbel _⟩
      case measure => simp [intOf]; omega
    · go_wp2
      go_ret
      exact ⟨rfl, hbel⟩
end Go.Proofs.Ytjpbjbnialehbaa

namespace Go.Proofs.Ytjpbjbnialehbaa
open Go.ChangeShapes Go.WideShapes Go.ChangeAt Go.RowKit
set_option linter.unusedVariables false
set_option maxRecDepth 8000
/-- A world that keeps what w0 has below B. -/
structure Sub (B : Nat) (w0 : World) where
  w : World
  h : Below B w0 w
theorem Sub.ne (B : Nat) (w0 : World) : Nonempty (Sub B w0) := ⟨⟨w0, Below.refl _ _⟩⟩
section
variable {B : Nat} {w0 : World} {P : Program}
theorem Sub.call {f : FuncId} {args : Array Value} {x : Sub B w0} {v : Value} (hB : B ≤ w0.heap.size) (h : Calls P f args x.w fun e w' => e = .returned v ∧ Below x.w.heap.size x.w w') : Calls P f args x.w fun e w' => e = .returned v ∧ ∃ y : Sub B w0, w' = y.w :=
  h.mono fun e w' ⟨he, hb⟩ => ⟨he, ⟨w', x.h.trans (hb.mono (Nat.le_trans hB x.h.size))⟩, rfl⟩
theorem Sub.same {f : FuncId} {args : Array Value} {x : Sub B w0} {v : Value} (h : Calls P f args x.w fun e w' => e = .returned v ∧ w' = x.w) : Calls P f args x.w fun e w' => e = .returned v ∧ ∃ y : Sub B w0, w' = y.w :=
  h.mono fun e w' ⟨he, hb⟩ => ⟨he, x, hb⟩
theorem Sub.cells {o : World} {cs : Array Value} {t : TypeId} (y : Sub (o.heap.size + 1) (o.alloc (Obj.cells cs t))) (j : Nat) (v : Value) (h : cs[j]? = some v) : y.w.cell? ⟨o.heap.size, j, none⟩ = some v :=
  box_cells o cs t y.w y.h j v h
end
end Go.Proofs.Ytjpbjbnialehbaa

namespace Go.Proofs.Ytjpbjbnialehbaa
open Go.ChangeShapes Go.WideShapes Go.ChangeAt Go.RowKit
set_option linter.unusedVariables false
set_option maxRecDepth 8000
set_option linter.unusedSimpArgs false
/-- A slice: address, length, room. -/
structure Sl where
  a : Option Addr
  n : Nat
  c : Nat
/-- A machine as a value. -/
structure Mv where
  m : Sl
  r : Sl
  n : Bool
  z : Bool
  v : Bool
  c : Bool
  i : Sl
  o : Sl
  st : Int
def Mv.cs (x : Mv) : Array Value := #[.slice x.m.a x.m.n x.m.c, .slice x.r.a x.r.n x.r.c, .bool x.n, .bool x.z, .bool x.v, .bool x.c, .slice x.i.a x.i.n x.i.c, .slice x.o.a x.o.n x.o.c, .int .i64 x.st]
theorem Mv.cs_one (x : Mv) : x.cs.all (·.oneCell') = true := by simp [Mv.cs, Value.oneCell']
theorem Mv.cs_size (x : Mv) : x.cs.size = 9 := rfl
section
variable {w : World} {g : Nat} {x : Mv} {t : TypeId}
theorem row_m (h : w.heap[g]? = some (.cells x.cs t (0, 0))) : w.cell? ⟨g, 0, none⟩ = some (.slice x.m.a x.m.n x.m.c) := (cell_of_row w g 0 _ t _ h).trans rfl
theorem row_r (h : w.heap[g]? = some (.cells x.cs t (0, 0))) : w.cell? ⟨g, 1, none⟩ = some (.slice x.r.a x.r.n x.r.c) := (cell_of_row w g 1 _ t _ h).trans rfl
theorem row_n (h : w.heap[g]? = some (.cells x.cs t (0, 0))) : w.cell? ⟨g, 2, none⟩ = some (.bool x.n) := (cell_of_row w g 2 _ t _ h).trans rfl
theorem row_z (h : w.heap[g]? = some (.cells x.cs t (0, 0))) : w.cell? ⟨g, 3, none⟩ = some (.bool x.z) := (cell_of_row w g 3 _ t _ h).trans rfl
theorem row_v (h : w.heap[g]? = some (.cells x.cs t (0, 0))) : w.cell? ⟨g, 4, none⟩ = some (.bool x.v) := (cell_of_row w g 4 _ t _ h).trans rfl
theorem row_c (h : w.heap[g]? = some (.cells x.cs t (0, 0))) : w.cell? ⟨g, 5, none⟩ = some (.bool x.c) := (cell_of_row w g 5 _ t _ h).trans rfl
theorem row_i (h : w.heap[g]? = some (.cells x.cs t (0, 0))) : w.cell? ⟨g, 6, none⟩ = some (.slice x.i.a x.i.n x.i.c) := (cell_of_row w g 6 _ t _ h).trans rfl
theorem row_o (h : w.heap[g]? = some (.cells x.cs t (0, 0))) : w.cell? ⟨g, 7, none⟩ = some (.slice x.o.a x.o.n x.o.c) := (cell_of_row w g 7 _ t _ h).trans rfl
theorem row_st (h : w.heap[g]? = some (.cells x.cs t (0, 0))) : w.cell? ⟨g, 8, none⟩ = some (.int .i64 x.st) := (cell_of_row w g 8 _ t _ h).trans rfl
theorem row_fz (h : w.heap[g]? = some (.cells x.cs t (0, 0))) (j : Nat) : w.frozen? ⟨g, j, none⟩ = false := by simp [World.frozen?, h]
end
def Mv.small (x : Mv) : Prop := x.m.n ≤ 1048576 ∧ x.r.n ≤ 1048576 ∧ x.i.n ≤ 1048576 ∧ x.o.n ≤ 1048576
end Go.Proofs.Ytjpbjbnialehbaa

namespace Go.Proofs.Ytjpbjbnialehbaa
open Go.ChangeShapes Go.WideShapes Go.ChangeAt Go.RowKit
set_option linter.unusedVariables false
set_option maxRecDepth 8000
set_option linter.unusedSimpArgs false
/-- What the four lists of a machine hold. -/
structure Md where
  m : List Int
  r : List Int
  i : List Int
  o : List Int
def Sl.v (s : Sl) : Value := .slice s.a s.n s.c
/-- The flags, and how it stands. -/
def Mv.fl (x : Mv) : Bool × Bool × Bool × Bool × Int := (x.n, x.z, x.v, x.c, x.st)
theorem fl_n {x y : Mv} (h : y.fl = x.fl) : y.n = x.n := congrArg (·.1) h
theorem fl_z {x y : Mv} (h : y.fl = x.fl) : y.z = x.z := congrArg (·.2.1) h
theorem fl_v {x y : Mv} (h : y.fl = x.fl) : y.v = x.v := congrArg (·.2.2.1) h
theorem fl_c {x y : Mv} (h : y.fl = x.fl) : y.c = x.c := congrArg (·.2.2.2.1) h
theorem fl_st {x y : Mv} (h : y.fl = x.fl) : y.st = x.st := congrArg (·.2.2.2.2) h
/-- The machine x reads as d. -/
structure RdM (w : World) (x : Mv) (d : Md) : Prop where
  m : RdN w x.m.a d.m
  r : RdN w x.r.a d.r
  i : RdN w x.i.a d.i
  o : RdN w x.o.a d.o
  ml : d.m.length = x.m.n
  rl : d.r.length = x.r.n
  il : d.i.length = x.i.n
  ol : d.o.length = x.o.n
/-- Two slices in no block together. -/
def Ap (s t : Sl) : Prop := ∀ g, s.v.ownBlock = some g → t.v.ownBlock = some g → False
/-- The machine x is of blocks from B on, each list in a block of its own, and holds d. -/
structure OwnM (w : World) (B : Nat) (x : Mv) (d : Md) : Prop where
  m : OwnN w B x.m.v d.m
  r : OwnN w B x.r.v d.r
  i : OwnN w B x.i.v d.i
  o : OwnN w B x.o.v d.o
  mr : Ap x.m x.r
  mi : Ap x.m x.i
  mo : Ap x.m x.o
  ri : Ap x.r x.i
  ro : Ap x.r x.o
  io : Ap x.i x.o
theorem Ap.symm {s t : Sl} (h : Ap s t) : Ap t s := fun g a b => h g b a
theorem OwnN.len {w : World} {B : Nat} {s : Sl} {ns : List Int} (h : OwnN w B s.v ns) : ns.length = s.n := by
  obtain ⟨a, c, e, _⟩ := h.rd
  obtain ⟨sa, sn, sc⟩ := s
  unfold Sl.v at e
  simp at e
  exact e.2.1.symm
theorem OwnN.rdS {w : World} {B : Nat} {s : Sl} {ns : List Int} (h : OwnN w B s.v ns) : RdN w s.a ns := OwnN.rd1 (n := s.n) (cap := s.c) h
section
variable {w w' : World} {B C : Nat} {x y : Mv} {d e : Md}
theorem OwnM.rd (h : OwnM w B x d) : RdM w x d := ⟨h.m.rdS, h.r.rdS, h.i.rdS, h.o.rdS, h.m.len, h.r.len, h.i.len, h.o.len⟩
theorem RdM.later (h : RdM w x d) (hb : Below w.heap.size w w') : RdM w' x d := ⟨h.m.later hb, h.r.later hb, h.i.later hb, h.o.later hb, h.ml, h.rl, h.il, h.ol⟩
theorem OwnM.later (h : OwnM w B x d) (hb : Below w.heap.size w w') : OwnM w' B x d := { h with m := h.m.later hb, r := h.r.later hb, i := h.i.later hb, o := h.o.later hb }
theorem OwnM.keep (h : OwnM w B x d) (hs : ∀ g, B ≤ g → g < w.heap.size → w'.heap[g]? = w.heap[g]?) : OwnM w' B x d :=
  { h with m := h.m.keep fun g hv hg => hs g (h.m.lt hv).1 hg, r := h.r.keep fun g hv hg => hs g (h.r.lt hv).1 hg, i := h.i.keep fun g hv hg => hs g (h.i.lt hv).1 hg, o := h.o.keep fun g hv hg => hs g (h.o.lt hv).1 hg }
theorem OwnM.base (h : OwnM w B x d) (hB : C ≤ B) : OwnM w C x d := { h with m := h.m.base hB, r := h.r.base hB, i := h.i.base hB, o := h.o.base hB }
theorem Below.drop {B : Nat} {a w : World} {b j : Nat} {v : Value} (h : Below B a w) (hb : B ≤ b) : Below B a (w.setCell ⟨b, j, none⟩ v) := h.setCell (p := ⟨b, j, none⟩) hb v
theorem OwnN.put {w : World} {B b j : Nat} {v u : Value} {ns : List Int} (h : OwnN w B v ns) (hb : b < B) : OwnN (w.setCell ⟨b, j, none⟩ u) B v ns :=
  h.keep fun g hv hg => Below.heap_setCell w ⟨b, j, none⟩ u g (by have := (h.lt hv).1; show g ≠ b; omega)
end
/-- Blocks of two slices that are parted by a bound. -/
theorem ap_of {w w' : World} {B C : Nat} {s t : Sl} {ns ms : List Int} (h : OwnN w B s.v ns) (k : OwnN w' C t.v ms) (hC : w.heap.size ≤ C) : Ap s t := fun g a b => by
  have := (h.lt a).2
  have := (k.lt b).1
  omega
def zMv : Mv := ⟨⟨none, 0, 0⟩, ⟨none, 0, 0⟩, false, false, false, false, ⟨none, 0, 0⟩, ⟨none, 0, 0⟩, 0⟩
theorem row_put {w : World} {g : Nat} {x : Mv} {t : TypeId} (h : w.heap[g]? = some (.cells x.cs t (0, 0))) (j : Nat) (v : Value) (x' : Mv) (he : x.cs.setIfInBounds j v = x'.cs) : (w.setCell ⟨g, j, none⟩ v).heap[g]? = some (.cells x'.cs t (0, 0)) := by
  rw [setCell_eq_setRow w g j x.cs t (0, 0) v h, he]
  exact setRow_heap w g x.cs _ t _ h
theorem row_keep {w : World} {g b j : Nat} {u : Value} {o : Obj} (h : w.heap[g]? = some o) (hne : g ≠ b) : (w.setCell ⟨b, j, none⟩ u).heap[g]? = some o := (Below.heap_setCell w ⟨b, j, none⟩ u g hne).trans h
theorem row_lt {w : World} {g : Nat} {o : Obj} (h : w.heap[g]? = some o) : g < w.heap.size := (Array.getElem?_eq_some_iff.1 h).1
theorem row_lat {w w' : World} {g : Nat} {o : Obj} (h : w.heap[g]? = some o) (hb : Below w.heap.size w w') : w'.heap[g]? = some o := (hb.block g (row_lt h)).trans h
/-- While a machine is copied: what came in, the answer's place, what is made. -/
structure Cm (w wr : World) (tb : TypeId) (x o : Mv) : Prop where
  bx : wr.heap[w.heap.size]? = some (.cells x.cs tb (0, 0))
  re : wr.heap[w.heap.size + 1]? = some (.cells zMv.cs 38 (0, 0))
  out : wr.heap[w.heap.size + 1 + 1]? = some (.cells o.cs 38 (0, 0))
  bel : Below w.heap.size w wr
  sz : w.heap.size + 3 ≤ wr.heap.size
section
variable {w wr w' : World} {tb : TypeId} {x o : Mv}
theorem Cm.later (h : Cm w wr tb x o) (hb : Below wr.heap.size wr w') : Cm w w' tb x o :=
  ⟨row_lat h.bx hb, row_lat h.re hb, row_lat h.out hb, h.bel.trans (hb.mono (by have := h.bel.size; omega)), Nat.le_trans h.sz hb.size⟩
theorem Cm.put (h : Cm w wr tb x o) (j : Nat) (v : Value) (o' : Mv) (he : o.cs.setIfInBounds j v = o'.cs) : Cm w (wr.setCell ⟨w.heap.size + 1 + 1, j, none⟩ v) tb x o' :=
  ⟨row_keep h.bx (by omega), row_keep h.re (by omega), row_put h.out j v o' he, Below.drop h.bel (by omega), by simpa using h.sz⟩
end
theorem RdN.put {w : World} {a : Option Addr} {ns : List Int} (h : RdN w a ns) {b j : Nat} {v : Value} (hne : ns = [] ∨ ∀ ad, a = some ad → ad.block ≠ b) : RdN (w.setCell ⟨b, j, none⟩ v) a ns := by
  rcases hne with h0 | hne
  · exact .inl h0
  · exact h.past (grownBy_set v) hne
/-- What came in reads on while the copy is written. -/
theorem RdM.set {w wr : World} {x o : Mv} {d : Md} {tb : TypeId} (h : RdM wr x d) (k : Cm w wr tb x o) (hw : RdM w x d) (j : Nat) (v : Value) : RdM (wr.setCell ⟨w.heap.size + 1 + 1, j, none⟩ v) x d := by
  have key : ∀ {a : Option Addr} {ns : List Int}, RdN w a ns → ns = [] ∨ ∀ ad, a = some ad → ad.block ≠ w.heap.size + 1 + 1 := fun hr => by
    rcases hr with h0 | ⟨b, off, rfl, hb, _⟩
    · exact .inl h0
    · exact .inr fun ad e => by cases e; show b ≠ _; omega
  exact ⟨h.m.put (key hw.m), h.r.put (key hw.r), h.i.put (key hw.i), h.o.put (key hw.o), h.ml, h.rl, h.il, h.ol⟩
/-- What stands when a copy is laid into the answer's place. -/
structure Cd (w wr : World) (o : Mv) : Prop where
  re : wr.heap[w.heap.size + 1]? = some (.cells o.cs 38 (0, 0))
  bel : Below w.heap.size w wr
theorem Cm.done {w wr : World} {tb : TypeId} {x o : Mv} (h : Cm w wr tb x o) : Cd w (wr.setRow (w.heap.size + 1) o.cs) o :=
  ⟨setRow_heap wr _ zMv.cs _ 38 _ h.re, below_setRow h.bel (by omega) _⟩
theorem OwnN.row {w : World} {B g : Nat} {v : Value} {ns : List Int} (h : OwnN w B v ns) (hb : g < B) (cs : Array Value) : OwnN (w.setRow g cs) B v ns :=
  h.keep fun j hv hj => setRow_other w g j cs (by have := (h.lt hv).1; omega)
end Go.Proofs.Ytjpbjbnialehbaa

namespace Go.Proofs.Ytjpbjbnialehbaa
open Go.ChangeShapes Go.WideShapes Go.ChangeAt Go.RowKit
set_option linter.unusedVariables false
set_option maxRecDepth 8000
set_option linter.unusedSimpArgs false
theorem i64_and65535 (n : Int) : bits .and .i64 n 65535 = n % 65536 := by
  have h127 : (BitVec.ofInt 64 65535).toNat = 2 ^ 16 - 1 := by decide
  have key : (BitVec.ofInt 64 n &&& BitVec.ofInt 64 65535).toNat = (n % ((2 ^ 64 : Nat) : Int)).toNat % 2 ^ 16 := by
    rw [BitVec.toNat_and, BitVec.toNat_ofInt, h127, Nat.and_two_pow_sub_one_eq_mod]
  show IntKind.i64.wrap ((BitVec.ofInt 64 n &&& BitVec.ofInt 64 65535).toNat : Nat) = n % 65536
  rw [key, IntKind.wrap_i64]
  omega
theorem ret_int {k : IntKind} {a b : Int} (h : a = b) : Ending.returned (.int k a) = .returned (.int k b) := by rw [h]
theorem ret_bool {a b : Bool} (h : a = b) : Ending.returned (.bool a) = .returned (.bool b) := by rw [h]
theorem wrapI_any (n : Int) (w : World) : Calls Try.prog 16 #[.int .i64 n] w fun e w' => e = .returned (.int .i64 (n % 65536)) ∧ w' = w := by
  go_enter Try.func16, Try.ntmps16
  go_wp2
  go_ret
  exact ⟨ret_int (i64_and65535 n), rfl⟩
theorem wrapS_any (n : Int) (w : World) : Calls Try.prog 50 #[.int .i64 n] w fun e w' => e = .returned (.int .i64 (n % 65536)) ∧ w' = w := by
  go_enter Try.func50, Try.ntmps50
  go_wp2
  go_ret
  exact ⟨ret_int (i64_and65535 n), rfl⟩
theorem isWord_eq (n : Int) : (n == n % 65536) = inB n 0 65535 := by
  unfold inB
  rw [Bool.eq_iff_iff]
  simp
  omega
theorem isWord_any (n : Int) (w : World) : Calls Try.prog 64 #[.int .i64 n] w fun e w' => e = .returned (.bool (inB n 0 65535)) ∧ w' = w := by
  rw [← isWord_eq]
  obtain ⟨q, hq⟩ : ∃ q, n % 65536 = q := ⟨_, rfl⟩
  have W := hide (fun w => hq ▸ wrapI_any n w)
  rw [hq]
  clear hq
  go_enter Try.func64, Try.ntmps64
  go_wp2_with (go_at_call 16; refine (unhide W _).mono ?_; rintro e w' ⟨rfl, rfl⟩)
  go_ret
  exact ⟨rfl, rfl⟩
/-- Are these words? -/
def wdB (ns : List Int) : Bool := ns.all fun x => inB x 0 65535
theorem wdB_snoc (ns : List Int) (k : Nat) (h : k < ns.length) : wdB (ns.take (k + 1)) = (wdB (ns.take k) && inB (nAt ns k) 0 65535) := by
  rw [take_nAt ns k h]; simp [wdB]
theorem wdB_no (ns : List Int) (k : Nat) (h : k < ns.length) (hb : inB (nAt ns k) 0 65535 = false) : wdB ns = false := by
  unfold wdB
  rw [List.all_eq_false]
  refine ⟨nAt ns k, ?_, by simp [hb]⟩
  unfold nAt
  rw [List.getD_eq_getElem?_getD, List.getElem?_eq_getElem h]
  exact List.getElem_mem _
set_option maxHeartbeats 400000 in
theorem wordsS_any (a : Option Addr) (len cap : Nat) (ns : List Int) (w : World) (hl : ns.length = len) (hm : len ≤ 1099511627776) (hr : RdN w a ns) :
    Calls Try.prog 52 #[.slice a len cap] w fun e w' => e = .returned (.bool (wdB ns)) ∧ w' = w := by
  go_enter Try.func52, Try.ntmps52
  go_wp2
  go_loop [3] (fun i => ∃ k : Nat, k ≤ len ∧ wdB (ns.take k) = true ∧ i = .int .i64 k) (fun i => len - (intOf i).toNat)
  case atStart => exact ⟨0, Nat.zero_le _, rfl, rfl⟩
  case round =>
    obtain ⟨k, hk, hw, rfl⟩ := hrel
    by_cases hlt : k < len
    · rcases hr with rfl | ⟨b, off, rfl, hb, hc⟩
      · simp at hl; omega
      have hcx := hc k (by omega)
      have HW := hide (wdB_snoc ns k (by omega))
      have HN := hide (wdB_no ns k (by omega))
      have HK := hide hw
      clear hc hw
      generalize nAt ns k = x at hcx HW HN ⊢
      have I1 := hide (fun w => in_any x 0 65535 w)
      obtain ⟨q, hq⟩ : ∃ q, inB x 0 65535 = q := ⟨_, rfl⟩
      rw [hq] at HW HN I1
      clear hq
      cases q
      · go_wp2_with (go_at_call 46; refine (unhide I1 _).mono ?_; rintro e w' ⟨rfl, hw'⟩; rw [hw']; clear hw' w')
        go_ret
        exact ⟨ret_bool (unhide HN (by trivial)).symm, rfl⟩
      · go_wp2_with (go_at_call 46; refine (unhide I1 _).mono ?_; rintro e w' ⟨rfl, hw'⟩; rw [hw']; clear hw' w')
        go_round
        case rel => exact ⟨k + 1, by omega, by rw [unhide HW, unhide HK]; rfl, by go_num⟩
        case measure => simp [intOf]; omega
    · have HK := hide hw
      clear hw
      go_wp2
      go_ret
      have := unhide HK
      rw [List.take_of_length_le (by omega)] at this
      exact ⟨ret_bool this.symm, rfl⟩
set_option maxHeartbeats 400000 in
theorem wordsI_any (a : Option Addr) (len cap : Nat) (ns : List Int) (w : World) (hl : ns.length = len) (hm : len ≤ 1099511627776) (hr : RdN w a ns) :
    Calls Try.prog 51 #[.slice a len cap] w fun e w' => e = .returned (.bool (wdB ns)) ∧ w' = w := by
  go_enter Try.func51, Try.ntmps51
  go_wp2
  go_loop [4, 7] (fun _ i => ∃ k : Nat, k ≤ len ∧ wdB (ns.take k) = true ∧ i = .int .i64 k) (fun _ i => len - (intOf i).toNat)
  case atStart => exact ⟨0, Nat.zero_le _, rfl, rfl⟩
  case round =>
    obtain ⟨k, hk, hw, rfl⟩ := hrel
    by_cases hlt : k < len
    · rcases hr with rfl | ⟨b, off, rfl, hb, hc⟩
      · simp at hl; omega
      have hcx := hc k (by omega)
      have HW := hide (wdB_snoc ns k (by omega))
      have HN := hide (wdB_no ns k (by omega))
      have HK := hide hw
      clear hc hw
      generalize nAt ns k = x at hcx HW HN ⊢
      have I1 := hide (fun w => isWord_any x w)
      obtain ⟨q, hq⟩ : ∃ q, inB x 0 65535 = q := ⟨_, rfl⟩
      rw [hq] at HW HN I1
      clear hq
      cases q
      · go_wp2_with (go_at_call 64; refine (unhide I1 _).mono ?_; rintro e w' ⟨rfl, hw'⟩; rw [hw']; clear hw' w')
        go_ret
        exact ⟨ret_bool (unhide HN (by trivial)).symm, rfl⟩
      · go_wp2_with (go_at_call 64; refine (unhide I1 _).mono ?_; rintro e w' ⟨rfl, hw'⟩; rw [hw']; clear hw' w')
        go_round
        case rel => exact ⟨k + 1, by omega, by rw [unhide HW, unhide HK]; rfl, by go_num⟩
        case measure => simp [intOf]; omega
    · have HK := hide hw
      clear hw
      go_wp2
      go_ret
      have := unhide HK
      rw [List.take_of_length_le (by omega)] at this
      exact ⟨ret_bool this.symm, rfl⟩
/-- Two machines in boxes. -/
structure Tw (w wr : World) (x y : Mv) : Prop where
  bx : wr.heap[w.heap.size]? = some (.cells x.cs 38 (0, 0))
  by' : wr.heap[w.heap.size + 1]? = some (.cells y.cs 38 (0, 0))
  bel : Below w.heap.size w wr
theorem Tw.later {w wr w' : World} {x y : Mv} (h : Tw w wr x y) (hb : Below wr.heap.size wr w') : Tw w w' x y :=
  ⟨row_lat h.bx hb, row_lat h.by' hb, h.bel.trans (hb.mono (by have := h.bel.size; omega))⟩
theorem tw_new (w : World) (x y : Mv) : Tw w ((w.alloc (.cells x.cs 38)).alloc (.cells y.cs 38)) x y := by
  have z1 : (w.alloc (.cells x.cs 38)).heap.size = w.heap.size + 1 := by simp
  have a1 := row_lat (heap_alloc_last w (.cells x.cs 38)) ((Below.refl _ _).alloc (Nat.le_refl _) (.cells y.cs 38))
  have a2 := heap_alloc_last (w.alloc (.cells x.cs 38)) (.cells y.cs 38)
  rw [z1] at a2
  exact ⟨a1, a2, ((Below.refl _ _).alloc (Nat.le_refl _) _).alloc (by omega) _⟩
end Go.Proofs.Ytjpbjbnialehbaa

namespace Go.Proofs.Ytjpbjbnialehbaa
open Go.ChangeShapes Go.WideShapes Go.ChangeAt Go.RowKit
set_option linter.unusedVariables false
set_option maxRecDepth 8000
set_option linter.unusedSimpArgs false
/-- Is the machine right? -/
def Md.ok (d : Md) (st : Int) : Bool :=
  ((d.m.length : Int) == 256) && (wdB d.m && (((d.r.length : Int) == 8) && (wdB d.r && (decide ((d.i.length : Int) ≤ 50) && (wdB d.i && (decide ((d.o.length : Int) ≤ 50) && (wdB d.o && inB st 0 2)))))))
set_option maxHeartbeats 4000000 in
theorem okS_any (x : Mv) (d : Md) (w : World) (hs : x.small) (hx : RdM w x d) : Calls Try.prog 26 #[.agg x.cs] w fun e w' => e = .returned (.bool (d.ok x.st)) ∧ Below w.heap.size w w' := by
  have HB := hide ((Below.refl w.heap.size w).alloc (Nat.le_refl _) (.cells x.cs 38))
  have X := hide (hx.later (unhide HB))
  have W2 := hide (wordsS_any x.m.a x.m.n x.m.c d.m _ hx.ml (by have := hs.1; omega) (unhide X).m)
  have W4 := hide (wordsS_any x.r.a x.r.n x.r.c d.r _ hx.rl (by have := hs.2.1; omega) (unhide X).r)
  have W6 := hide (wordsS_any x.i.a x.i.n x.i.c d.i _ hx.il (by have := hs.2.2.1; omega) (unhide X).i)
  have W8 := hide (wordsS_any x.o.a x.o.n x.o.c d.o _ hx.ol (by have := hs.2.2.2; omega) (unhide X).o)
  have W9 := hide (fun w => in_any x.st 0 2 w)
  have c0 : x.cs[0]? = some (.slice x.m.a x.m.n x.m.c) := rfl
  have c1 : x.cs[1]? = some (.slice x.r.a x.r.n x.r.c) := rfl
  have c6 : x.cs[6]? = some (.slice x.i.a x.i.n x.i.c) := rfl
  have c7 : x.cs[7]? = some (.slice x.o.a x.o.n x.o.c) := rfl
  have c8 : x.cs[8]? = some (.int .i64 x.st) := rfl
  unfold Md.ok
  rw [hx.ml, hx.rl, hx.il, hx.ol]
  clear hx hs X
  generalize wdB d.m = b2 at W2 ⊢
  generalize wdB d.r = b4 at W4 ⊢
  generalize wdB d.i = b6 at W6 ⊢
  generalize wdB d.o = b8 at W8 ⊢
  generalize inB x.st 0 2 = b9 at W9 ⊢
  cases h1 : ((x.m.n : Int) == 256)
  · go_enter Try.func26, Try.ntmps26
    go_wp2
    go_ret
    exact ⟨rfl, unhide HB⟩
  cases b2
  · go_enter Try.func26, Try.ntmps26
    go_wp2_with (first | (go_at_call_of 52 (Value.slice x.m.a x.m.n x.m.c); refine (unhide W2).mono ?_; rintro e w' ⟨rfl, rfl⟩))
    go_ret
    exact ⟨rfl, unhide HB⟩
  cases h3 : ((x.r.n : Int) == 8)
  · go_enter Try.func26, Try.ntmps26
    go_wp2_with (first | (go_at_call_of 52 (Value.slice x.m.a x.m.n x.m.c); refine (unhide W2).mono ?_; rintro e w' ⟨rfl, rfl⟩))
    go_ret
    exact ⟨rfl, unhide HB⟩
  cases b4
  · go_enter Try.func26, Try.ntmps26
    go_wp2_with (first | (go_at_call_of 52 (Value.slice x.m.a x.m.n x.m.c); refine (unhide W2).mono ?_; rintro e w' ⟨rfl, rfl⟩) | (go_at_call_of 52 (Value.slice x.r.a x.r.n x.r.c); refine (unhide W4).mono ?_; rintro e w' ⟨rfl, rfl⟩))
    go_ret
    exact ⟨rfl, unhide HB⟩
  cases h5 : decide ((x.i.n : Int) ≤ 50)
  · go_enter Try.func26, Try.ntmps26
    go_wp2_with (first | (go_at_call_of 52 (Value.slice x.m.a x.m.n x.m.c); refine (unhide W2).mono ?_; rintro e w' ⟨rfl, rfl⟩) | (go_at_call_of 52 (Value.slice x.r.a x.r.n x.r.c); refine (unhide W4).mono ?_; rintro e w' ⟨rfl, rfl⟩))
    go_ret
    exact ⟨rfl, unhide HB⟩
  cases b6
  · go_enter Try.func26, Try.ntmps26
    go_wp2_with (first | (go_at_call_of 52 (Value.slice x.m.a x.m.n x.m.c); refine (unhide W2).mono ?_; rintro e w' ⟨rfl, rfl⟩) | (go_at_call_of 52 (Value.slice x.r.a x.r.n x.r.c); refine (unhide W4).mono ?_; rintro e w' ⟨rfl, rfl⟩) | (go_at_call_of 52 (Value.slice x.i.a x.i.n x.i.c); refine (unhide W6).mono ?_; rintro e w' ⟨rfl, rfl⟩))
    go_ret
    exact ⟨rfl, unhide HB⟩
  cases h7 : decide ((x.o.n : Int) ≤ 50)
  · go_enter Try.func26, Try.ntmps26
    go_wp2_with (first | (go_at_call_of 52 (Value.slice x.m.a x.m.n x.m.c); refine (unhide W2).mono ?_; rintro e w' ⟨rfl, rfl⟩) | (go_at_call_of 52 (Value.slice x.r.a x.r.n x.r.c); refine (unhide W4).mono ?_; rintro e w' ⟨rfl, rfl⟩) | (go_at_call_of 52 (Value.slice x.i.a x.i.n x.i.c); refine (unhide W6).mono ?_; rintro e w' ⟨rfl, rfl⟩))
    go_ret
    exact ⟨rfl, unhide HB⟩
  cases b8
  · go_enter Try.func26, Try.ntmps26
    go_wp2_with (first | (go_at_call_of 52 (Value.slice x.m.a x.m.n x.m.c); refine (unhide W2).mono ?_; rintro e w' ⟨rfl, rfl⟩) | (go_at_call_of 52 (Value.slice x.r.a x.r.n x.r.c); refine (unhide W4).mono ?_; rintro e w' ⟨rfl, rfl⟩) | (go_at_call_of 52 (Value.slice x.i.a x.i.n x.i.c); refine (unhide W6).mono ?_; rintro e w' ⟨rfl, rfl⟩) | (go_at_call_of 52 (Value.slice x.o.a x.o.n x.o.c); refine (unhide W8).mono ?_; rintro e w' ⟨rfl, rfl⟩))
    go_ret
    exact ⟨rfl, unhide HB⟩
  cases b9
  · go_enter Try.func26, Try.ntmps26
    go_wp2_with (first | (go_at_call_of 52 (Value.slice x.m.a x.m.n x.m.c); refine (unhide W2).mono ?_; rintro e w' ⟨rfl, rfl⟩) | (go_at_call_of 52 (Value.slice x.r.a x.r.n x.r.c); refine (unhide W4).mono ?_; rintro e w' ⟨rfl, rfl⟩) | (go_at_call_of 52 (Value.slice x.i.a x.i.n x.i.c); refine (unhide W6).mono ?_; rintro e w' ⟨rfl, rfl⟩) | (go_at_call_of 52 (Value.slice x.o.a x.o.n x.o.c); refine (unhide W8).mono ?_; rintro e w' ⟨rfl, rfl⟩) | (go_at_call 46; refine (unhide W9 _).mono ?_; rintro e w' ⟨rfl, rfl⟩))
    go_ret
    exact ⟨rfl, unhide HB⟩
  go_enter Try.func26, Try.ntmps26
  go_wp2_with (first | (go_at_call_of 52 (Value.slice x.m.a x.m.n x.m.c); refine (unhide W2).mono ?_; rintro e w' ⟨rfl, rfl⟩) | (go_at_call_of 52 (Value.slice x.r.a x.r.n x.r.c); refine (unhide W4).mono ?_; rintro e w' ⟨rfl, rfl⟩) | (go_at_call_of 52 (Value.slice x.i.a x.i.n x.i.c); refine (unhide W6).mono ?_; rintro e w' ⟨rfl, rfl⟩) | (go_at_call_of 52 (Value.slice x.o.a x.o.n x.o.c); refine (unhide W8).mono ?_; rintro e w' ⟨rfl, rfl⟩) | (go_at_call 46; refine (unhide W9 _).mono ?_; rintro e w' ⟨rfl, rfl⟩))
  go_ret
  exact ⟨rfl, unhide HB⟩
end Go.Proofs.Ytjpbjbnialehbaa

namespace Go.Proofs.Ytjpbjbnialehbaa
open Go.ChangeShapes Go.WideShapes Go.ChangeAt Go.RowKit
set_option linter.unusedVariables false
set_option maxRecDepth 8000
set_option linter.unusedSimpArgs false
set_option maxHeartbeats 4000000 in
theorem okI_any (x : Mv) (d : Md) (w : World) (hs : x.small) (hx : RdM w x d) : Calls Try.prog 25 #[.agg x.cs] w fun e w' => e = .returned (.bool (d.ok x.st)) ∧ Below w.heap.size w w' := by
  have HB := hide ((Below.refl w.heap.size w).alloc (Nat.le_refl _) (.cells x.cs 38))
  have X := hide (hx.later (unhide HB))
  have W0 := hide (wordsI_any x.m.a x.m.n x.m.c d.m _ hx.ml (by have := hs.1; omega) (unhide X).m)
  have W1 := hide (wordsI_any x.r.a x.r.n x.r.c d.r _ hx.rl (by have := hs.2.1; omega) (unhide X).r)
  have W2 := hide (wordsI_any x.i.a x.i.n x.i.c d.i _ hx.il (by have := hs.2.2.1; omega) (unhide X).i)
  have W3 := hide (wordsI_any x.o.a x.o.n x.o.c d.o _ hx.ol (by have := hs.2.2.2; omega) (unhide X).o)
  have c0 : x.cs[0]? = some (.slice x.m.a x.m.n x.m.c) := rfl
  have c1 : x.cs[1]? = some (.slice x.r.a x.r.n x.r.c) := rfl
  have c6 : x.cs[6]? = some (.slice x.i.a x.i.n x.i.c) := rfl
  have c7 : x.cs[7]? = some (.slice x.o.a x.o.n x.o.c) := rfl
  have c8 : x.cs[8]? = some (.int .i64 x.st) := rfl
  unfold Md.ok
  rw [hx.ml, hx.rl, hx.il, hx.ol]
  clear hx hs X
  generalize wdB d.m = b0 at W0 ⊢
  generalize wdB d.r = b1 at W1 ⊢
  generalize wdB d.i = b2 at W2 ⊢
  generalize wdB d.o = b3 at W3 ⊢
  by_cases h1 : (x.m.n : Int) = 256
  rotate_left
  · rw [show ((x.m.n : Int) == 256) = false by simpa using h1]
    go_enter Try.func25, Try.ntmps25
    go_wp2
    go_ret
    exact ⟨ret_bool (by simp), unhide HB⟩
  rw [show ((x.m.n : Int) == 256) = true by simpa using h1]
  have g1 : 256 ≤ x.m.n ∧ x.m.n ≤ 256 := by omega
  obtain ⟨g1a, g1b⟩ := g1
  clear h1
  by_cases h2 : (x.r.n : Int) = 8
  rotate_left
  · rw [show ((x.r.n : Int) == 8) = false by simpa using h2]
    go_enter Try.func25, Try.ntmps25
    go_wp2
    go_ret
    exact ⟨ret_bool (by simp), unhide HB⟩
  rw [show ((x.r.n : Int) == 8) = true by simpa using h2]
  have g2 : 8 ≤ x.r.n ∧ x.r.n ≤ 8 := by omega
  obtain ⟨g2a, g2b⟩ := g2
  clear h2
  by_cases h3 : (x.i.n : Int) ≤ 50
  rotate_left
  · rw [decide_eq_false h3]
    go_enter Try.func25, Try.ntmps25
    go_wp2
    go_ret
    exact ⟨ret_bool (by simp), unhide HB⟩
  rw [decide_eq_true h3]
  by_cases h4 : (x.o.n : Int) ≤ 50
  rotate_left
  · rw [decide_eq_false h4]
    go_enter Try.func25, Try.ntmps25
    go_wp2
    go_ret
    exact ⟨ret_bool (by simp), unhide HB⟩
  rw [decide_eq_true h4]
  obtain ⟨B, hB⟩ : ∃ B : Nat → Bool, B = fun j => if j = 0 then b0 else if j = 1 then b1 else if j = 2 then b2 else b3 := ⟨_, rfl⟩
  have HBB := hide hB
  clear hB
  have ix0 : ∀ w, (Instr.index 75 (.agg #[Value.slice x.m.a x.m.n x.m.c, Value.slice x.r.a x.r.n x.r.c, Value.slice x.i.a x.i.n x.i.c, Value.slice x.o.a x.o.n x.o.c]) (.int .i64 0)).run Try.prog w = .ok (.slice x.m.a x.m.n x.m.c) w := fun w => by kernel_rfl
  have ix1 : ∀ w, (Instr.index 75 (.agg #[Value.slice x.m.a x.m.n x.m.c, Value.slice x.r.a x.r.n x.r.c, Value.slice x.i.a x.i.n x.i.c, Value.slice x.o.a x.o.n x.o.c]) (.int .i64 1)).run Try.prog w = .ok (.slice x.r.a x.r.n x.r.c) w := fun w => by kernel_rfl
  have ix2 : ∀ w, (Instr.index 75 (.agg #[Value.slice x.m.a x.m.n x.m.c, Value.slice x.r.a x.r.n x.r.c, Value.slice x.i.a x.i.n x.i.c, Value.slice x.o.a x.o.n x.o.c]) (.int .i64 2)).run Try.prog w = .ok (.slice x.i.a x.i.n x.i.c) w := fun w => by kernel_rfl
  have ix3 : ∀ w, (Instr.index 75 (.agg #[Value.slice x.m.a x.m.n x.m.c, Value.slice x.r.a x.r.n x.r.c, Value.slice x.i.a x.i.n x.i.c, Value.slice x.o.a x.o.n x.o.c]) (.int .i64 3)).run Try.prog w = .ok (.slice x.o.a x.o.n x.o.c) w := fun w => by kernel_rfl
  go_enter Try.func25, Try.ntmps25
  go_wp2
  go_loop [4, 36] (fun _ i => ∃ k : Nat, k ≤ 4 ∧ i = .int .i64 k ∧ ∀ j, j < k → B j = true) (fun _ i => 4 - (intOf i).toNat)
  case atStart => exact ⟨0, by omega, rfl, fun j h => by omega⟩
  case round =>
    obtain ⟨k, hk, rfl, hall⟩ := hrel
    by_cases hlt : k < 4
    · have HA := hide hall
      clear hall
      obtain rfl | rfl | rfl | rfl : k = 0 ∨ k = 1 ∨ k = 2 ∨ k = 3 := by omega
      · have hBk : Hid (B 0 = b0) := by rw [show B = _ from unhide HBB]; rfl
        cases b0
        · go_wp2_with (go_at_call 51; refine (unhide W0).mono ?_; rintro e w' ⟨rfl, rfl⟩)
          go_ret
          exact ⟨ret_bool (by simp), unhide HB⟩
        · go_wp2_with (go_at_call 51; refine (unhide W0).mono ?_; rintro e w' ⟨rfl, rfl⟩)
          go_round
          case rel => exact ⟨1, by omega, by go_num, fun j hj => by
            by_cases e : j = 0
            · rw [e]; exact unhide hBk
            · exact unhide HA j (by omega)⟩
          case measure => simp [intOf]
      · have hBk : Hid (B 1 = b1) := by rw [show B = _ from unhide HBB]; rfl
        cases b1
        · go_wp2_with (go_at_call 51; refine (unhide W1).mono ?_; rintro e w' ⟨rfl, rfl⟩)
          go_ret
          exact ⟨ret_bool (by simp), unhide HB⟩
        · go_wp2_with (go_at_call 51; refine (unhide W1).mono ?_; rintro e w' ⟨rfl, rfl⟩)
          go_round
          case rel => exact ⟨2, by omega, by go_num, fun j hj => by
            by_cases e : j = 1
            · rw [e]; exact unhide hBk
            · exact unhide HA j (by omega)⟩
          case measure => simp [intOf]
      · have hBk : Hid (B 2 = b2) := by rw [show B = _ from unhide HBB]; rfl
        cases b2
        · go_wp2_with (go_at_call 51; refine (unhide W2).mono ?_; rintro e w' ⟨rfl, rfl⟩)
          go_ret
          exact ⟨ret_bool (by simp), unhide HB⟩
        · go_wp2_with (go_at_call 51; refine (unhide W2).mono ?_; rintro e w' ⟨rfl, rfl⟩)
          go_round
          case rel => exact ⟨3, by omega, by go_num, fun j hj => by
            by_cases e : j = 2
            · rw [e]; exact unhide hBk
            · exact unhide HA j (by omega)⟩
          case measure => simp [intOf]
      · have hBk : Hid (B 3 = b3) := by rw [show B = _ from unhide HBB]; rfl
        cases b3
        · go_wp2_with (go_at_call 51; refine (unhide W3).mono ?_; rintro e w' ⟨rfl, rfl⟩)
          go_ret
          exact ⟨ret_bool (by simp), unhide HB⟩
        · go_wp2_with (go_at_call 51; refine (unhide W3).mono ?_; rintro e w' ⟨rfl, rfl⟩)
          go_round
          case rel => exact ⟨4, by omega, by go_num, fun j hj => by
            by_cases e : j = 3
            · rw [e]; exact unhide hBk
            · exact unhide HA j (by omega)⟩
          case measure => simp [intOf]
    · obtain rfl : k = 4 := by omega
      have e := unhide HBB
      have a0 := hall 0 (by omega)
      have a1 := hall 1 (by omega)
      have a2 := hall 2 (by omega)
      have a3 := hall 3 (by omega)
      rw [show B = _ from e] at a0 a1 a2 a3
      simp only [↓reduceIte, Nat.reduceEqDiff, Nat.one_ne_zero] at a0 a1 a2 a3
      subst a0 a1 a2 a3
      clear e hall HBB
      by_cases s0 : x.st = 0
      · have e0 : (x.st == 0) = true := by simpa using s0
        have F : inB x.st 0 2 = true := by unfold inB; simp; omega
        have HF := hide F
        clear F s0
        go_wp2
        go_ret
        exact ⟨ret_bool (by simp [unhide HF]), unhide HB⟩
      have e0 : (x.st == 0) = false := by simpa using s0
      by_cases s1 : x.st = 1
      · have e1 : (x.st == 1) = true := by simpa using s1
        have F : inB x.st 0 2 = true := by unfold inB; simp; omega
        have HF := hide F
        clear F s0 s1
        go_wp2
        go_ret
        exact ⟨ret_bool (by simp [unhide HF]), unhide HB⟩
      have e1 : (x.st == 1) = false := by simpa using s1
      have F : inB x.st 0 2 = (x.st == 2) := by unfold inB; rw [Bool.eq_iff_iff]; simp; omega
      cases e2 : (x.st == 2)
      all_goals rw [e2] at F
      all_goals have HF := hide F
      all_goals clear F s0 s1
      · go_wp2
        go_ret
        exact ⟨ret_bool (by simp [unhide HF]), unhide HB⟩
      · go_wp2
        go_ret
        exact ⟨ret_bool (by simp [unhide HF]), unhide HB⟩
end Go.Proofs.Ytjpbjbnialehbaa

namespace Go.Proofs.Ytjpbjbnialehbaa
open Go.ChangeShapes Go.WideShapes Go.ChangeAt Go.RowKit
set_option linter.unusedVariables false
set_option maxRecDepth 8000
set_option linter.unusedSimpArgs false
/-- What came in, in its box, while the law goes on. -/
structure Lw (W wr : World) (x : Mv) (e : Md) : Prop where
  bx : wr.heap[W.heap.size]? = some (.cells x.cs 52 (0, 0))
  rd : RdM wr x e
  bel : Below W.heap.size W wr
theorem Lw.later {W wr w' : World} {x : Mv} {e : Md} (h : Lw W wr x e) (hb : Below wr.heap.size wr w') : Lw W w' x e :=
  ⟨row_lat h.bx hb, h.rd.later hb, h.bel.trans (hb.mono (by have := h.bel.size; omega))⟩
theorem Lw.lt {W wr : World} {x : Mv} {e : Md} (h : Lw W wr x e) : W.heap.size < wr.heap.size := row_lt h.bx
theorem below_new (w : World) (o : Obj) : Below w.heap.size w (w.alloc o) := (Below.refl _ _).alloc (Nat.le_refl _) _
theorem below_drew {w : World} : Below w.heap.size w w.drew := ⟨rfl, rfl, rfl, Nat.le_refl _, fun _ _ => rfl⟩
theorem wpList_store_new {P : Program} {ops : Array Oper} {rest : List Oper} {o : Oper} {a : Act} {w : World} {Q : Exit → Act → World → Prop} (hgd : o.guard = none) (ty : TypeId) (x y : Operand) (ho : o.op = .store ty x y)
    (cells : Array Value) (hx : a.eval x = .pointer (some ⟨w.heap.size, 0, none⟩)) (hy : a.eval y = .agg cells) (old : Array Value) (hi : (P.info? ty).map (·.size) = some cells.size)
    (hold : old.size = cells.size) (h1 : cells.all (·.oneCell') = true) (h : wpList P ops Q rest (a.put o.dst undef) (w.alloc (.cells cells ty))) : wpList P ops Q (o :: rest) a (w.alloc (.cells old ty)) :=
  wpList_store_row hgd ty x y ho w.heap.size cells hx hy ty old (heap_alloc_last w _) hi hold h1 (by rw [World.setRow_alloc_new]; exact h)
end Go.Proofs.Ytjpbjbnialehbaa
