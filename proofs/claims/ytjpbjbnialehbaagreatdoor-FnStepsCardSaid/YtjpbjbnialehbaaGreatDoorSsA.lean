/- Contracts over this seat's translation, laid together; conditions stand as hypotheses of each. -/
import Derived.Deep.RegionHeld
import Derived.Maps.AppendAt
import Derived.Deep.RegionWith
import Derived.Laws.CopyOwn
import Derived.Deep.DeepMust
import Derived.WalkKit
import Derived.ProofKit
import Derived.OpenShut
import Derived.ShutString
import Derived.ChangeOld
import Derived.Below
import Derived.Deep.OwnRows
import Derived.WalkSpells
import Derived.Laws.AppendOwnNone
import Derived.Laws.OwnMore
import Derived.BigQuiet
import Derived.Laws.BitsLemmas
import Derived.WalkLawsBesides
import Derived.Laws.ResultCell
import Derived.Laws.Rows
import Derived.Test.YtjpbjbnialehbaaGreatDoorProg
import GoSem.Claim
import Derived.JoinedTies
import Derived.KernelRfl
namespace Go.Proofs.YtjpbjbnialehbaaGreatDoor
open Go.ChangeShapes Go.WideShapes Go.ChangeAt Go.RowKit
set_option maxHeartbeats 16000000
section
variable {P : Program} {ops : Array Oper} {Q : Exit → Act → World → Prop} {md : Region.Mode} {S : World → Prop} {oi : Oper} {fuel : Nat} {listed : Array Bool} {a : Act} {w : World}
theorem tkA (i : Nat) (v : Value) (hi : ops[i]? = some oi) (hy : YieldsIf P ops S oi v a) (hS : S w) (h : wpAnyH P md ops Q S fuel (listed.setIfInBounds i true) (a.put oi.dst v) w) (hs : Region.noSelect ops = true := by kernel_rfl) (hf : Region.free md ops listed i = true := by kernel_rfl) (hr : (Region.ready md ops listed).contains i = true := by kernel_rfl) (hQ : ∀ c a w, Q (.panic c) (a.put oi.dst v) w → Q (.panic c) a w := by exact fun _ _ _ h => h) : wpAnyH P md ops Q S (fuel + 1) listed a w := wpAnyH_take hi hs hf hr hQ hy hS h
theorem tkB (i : Nat) (v : Value) (hi : ops[i]? = some oi) (hS : S w) (h : wpAnyH P md ops Q S fuel (listed.setIfInBounds i true) (a.put oi.dst v) w) (hs : Region.noSelect ops = true := by kernel_rfl) (hf : Region.free md ops listed i = true := by kernel_rfl) (hr : (Region.ready md ops listed).contains i = true := by kernel_rfl) (hQ : ∀ c a w, Q (.panic c) (a.put oi.dst v) w → Q (.panic c) a w := by exact fun _ _ _ h => h) (hy : YieldsIf P ops S oi v a := by exact .inl ⟨by rfl, fun w hc => by clear hc; go_simp⟩) : wpAnyH P md ops Q S (fuel + 1) listed a w := wpAnyH_take hi hs hf hr hQ hy hS h
end
set_option linter.unusedVariables false
set_option maxRecDepth 8000
theorem hide {p : Prop} (h : p) : Hid p := h
theorem uh {p : Prop} (h : Hid p) : p := h
structure Od where
 m : Int
 r : Int
 x : Int
structure Is where
 op : Int
 s : Od
 d : Od
 n : Int
def Od.v (o : Od) : Value := .agg #[.int .i64 o.m, .int .i64 o.r, .int .i64 o.x]
def Is.v (i : Is) : Value := .agg #[.int .i64 i.op, .int .i64 i.s.m, .int .i64 i.s.r, .int .i64 i.s.x, .int .i64 i.d.m, .int .i64 i.d.r, .int .i64 i.d.x, .int .i64 i.n]
def inB (x a b : Int) : Bool := decide (a ≤ x) && decide (x ≤ b)
def Od.hasX (o : Od) : Bool := (o.m == 6 || o.m == 7) || (o.r == 7 && (o.m == 2 || o.m == 3))
def Od.ok (o : Od) : Bool := ((inB o.m 0 7 && inB o.r 0 7) && inB o.x 0 65535) && (o.hasX || o.x == 0)
def Od.zero (o : Od) : Bool := o.m == 0 && (o.r == 0 && o.x == 0)
def Is.ok (i : Is) : Bool :=
 if inB i.op 1 6 = true then (i.s.ok && i.d.ok) && i.n == 0
 else if inB i.op 7 14 = true then (i.s.zero && i.d.ok) && i.n == 0
 else if i.op == 15 then (i.s.zero && i.d.ok) && inB i.n 0 7
 else if (!i.s.zero || !i.d.zero) = true then false
 else if i.op == 16 then inB i.n 0 7
 else if inB i.op 17 21 = true then inB i.n (-128) 127
 else if i.op == 22 then i.n == 0
 else if i.op == 23 then inB i.n 0 255
 else false
def Is.words (i : Is) : Int := 1 + (if (inB i.op 1 6 && i.s.hasX) = true then 1 else 0) + (if (inB i.op 1 15 && i.d.hasX) = true then 1 else 0)
theorem in_any (x a b : Int) (w : World) : Calls Tryz.prog 31 #[.int .i64 x, .int .i64 a, .int .i64 b] w fun e w' => e = .returned (.bool (inB x a b)) ∧ w' = w := by
 unfold inB
 by_cases h1 : a ≤ x
 ·
  rw [decide_eq_true h1, Bool.true_and]
  go_enter Tryz.func31, Tryz.ntmps31
  go_wp2
  go_ret
  exact ⟨rfl, rfl⟩
 ·
  rw [decide_eq_false h1, Bool.false_and]
  have h3 : decide (a ≤ x) = false := decide_eq_false h1
  go_enter Tryz.func31, Tryz.ntmps31
  go_wp2
  go_ret
  exact ⟨rfl, rfl⟩
theorem hasX_any (o : Od) (w : World) : Calls Tryz.prog 87 #[o.v] w fun e w' => e = .returned (.bool o.hasX) ∧ Below w.heap.size w w' := by
 obtain ⟨m, r, x⟩ := o
 unfold Od.hasX Od.v
 simp only
 have hB := hide ((Below.refl w.heap.size w).alloc (Nat.le_refl _) (Obj.cells #[.int .i64 m, .int .i64 r, .int .i64 x] 67))
 cases h6 : (m == 6)
 ·
  cases h7 : (m == 7)
  ·
   cases h8 : (r == 7)
   ·
    go_enter Tryz.func87, Tryz.ntmps87
    go_wp2
    go_ret
    exact ⟨rfl, uh hB⟩
   ·
    cases h2 : (m == 2)
    ·
     go_enter Tryz.func87, Tryz.ntmps87
     go_wp2
     go_ret
     exact ⟨rfl, uh hB⟩
    ·
     go_enter Tryz.func87, Tryz.ntmps87
     go_wp2
     go_ret
     exact ⟨rfl, uh hB⟩
  ·
   go_enter Tryz.func87, Tryz.ntmps87
   go_wp2
   go_ret
   exact ⟨rfl, uh hB⟩
 ·
  go_enter Tryz.func87, Tryz.ntmps87
  go_wp2
  go_ret
  exact ⟨rfl, uh hB⟩
theorem opdOk_any (o : Od) (w : World) : Calls Tryz.prog 120 #[o.v] w fun e w' => e = .returned (.bool o.ok) ∧ Below w.heap.size w w' := by
 have HX := hide (fun w => hasX_any o w)
 obtain ⟨m, r, x⟩ := o
 unfold Od.ok
 obtain ⟨q, hq⟩ : ∃ q, Od.hasX ⟨m, r, x⟩ = q := ⟨_, rfl⟩
 rw [hq] at HX ⊢
 clear hq
 unfold Od.v at HX ⊢
 simp only at HX ⊢
 have hB := hide ((Below.refl w.heap.size w).alloc (Nat.le_refl _) (Obj.cells #[.int .i64 m, .int .i64 r, .int .i64 x] 67))
 cases h1 : inB m 0 7
 ·
  go_enter Tryz.func120, Tryz.ntmps120
  go_wp2_with (go_at_call 31; refine (in_any _ _ _ _).mono ?_; rintro e w' ⟨rfl, hw'⟩; rw [hw']; clear hw' w')
  go_ret
  exact ⟨rfl, uh hB⟩
 ·
  cases h2 : inB r 0 7
  ·
   go_enter Tryz.func120, Tryz.ntmps120
   go_wp2_with (go_at_call 31; refine (in_any _ _ _ _).mono ?_; rintro e w' ⟨rfl, hw'⟩; rw [hw']; clear hw' w')
   go_ret
   exact ⟨rfl, uh hB⟩
  ·
   cases h3 : inB x 0 65535
   ·
    go_enter Tryz.func120, Tryz.ntmps120
    go_wp2_with (go_at_call 31; refine (in_any _ _ _ _).mono ?_; rintro e w' ⟨rfl, hw'⟩; rw [hw']; clear hw' w')
    go_ret
    exact ⟨rfl, uh hB⟩
   ·
    have hz : (w.alloc (Obj.cells #[.int .i64 m, .int .i64 r, .int .i64 x] 67)).heap.size = w.heap.size + 1 := by simp
    have hcl : ∀ w', Below (w.heap.size + 1) (w.alloc (Obj.cells #[.int .i64 m, .int .i64 r, .int .i64 x] 67)) w' → w'.cell? ⟨w.heap.size, 2, none⟩ = some (.int .i64 x) := fun w' hb => (hb.cell (p := ⟨w.heap.size, 2, none⟩) (by simp)).trans (by simp)
    have HZ := hide hz
    have HCL := hide hcl
    clear hz hcl
    go_enter Tryz.func120, Tryz.ntmps120
    go_wp2_with (go_at_call 31; refine (in_any _ _ _ _).mono ?_; rintro e w' ⟨rfl, hw'⟩; rw [hw']; clear hw' w')
    refine (uh HX _).mono ?_
    rintro e w2 ⟨rfl, hb2⟩
    rw [uh HZ] at hb2
    have hcx := uh HCL w2 hb2
    have B2 := hide ((uh hB).trans (hb2.mono (by omega)))
    clear hb2 HX
    cases q
    ·
     go_wp2
     go_ret
     exact ⟨rfl, uh B2⟩
    ·
     go_wp2
     go_ret
     exact ⟨rfl, uh B2⟩
theorem zero_any (o : Od) (w : World) : Calls Tryz.prog 121 #[o.v] w fun e w' => e = .returned (.bool o.zero) ∧ Below w.heap.size w w' := by
 obtain ⟨m, r, x⟩ := o
 unfold Od.zero Od.v
 simp only
 go_enter Tryz.func121, Tryz.ntmps121
 go_wp2
 all_goals go_ret
 all_goals refine ⟨?_, (Below.refl _ _).alloc (Nat.le_refl _) _⟩
 all_goals simp_all
set_option linter.unusedSimpArgs false
theorem box_cells (w : World) (cs : Array Value) (t : TypeId) : ∀ w', Below (w.heap.size + 1) (w.alloc (Obj.cells cs t)) w' → ∀ j v, cs[j]? = some v → w'.cell? ⟨w.heap.size, j, none⟩ = some v := fun w' hb j v hv =>
 (hb.cell (p := ⟨w.heap.size, j, none⟩) (by simp)).trans (by rw [World.cell?_alloc_at _ _ _ _ rfl]; exact hv)
theorem box_below (w : World) (o : Obj) : ∀ w', Below (w.heap.size + 1) (w.alloc o) w' → Below w.heap.size w w' := fun w' hb =>
 ((Below.refl _ _).alloc (Nat.le_refl _) _).trans (hb.mono (by omega))
theorem insOk_any (i : Is) (w : World) : Calls Tryz.prog 88 #[i.v] w fun e w' => e = .returned (.bool i.ok) ∧ Below w.heap.size w w' := by
 obtain ⟨op, ⟨sm, sr, sx⟩, ⟨dm, dr, dx⟩, n⟩ := i
 have HZ := hide (show (w.alloc (Obj.cells #[.int .i64 op, .int .i64 sm, .int .i64 sr, .int .i64 sx, .int .i64 dm, .int .i64 dr, .int .i64 dx, .int .i64 n] 69)).heap.size = w.heap.size + 1 by simp)
 have HCL := hide (box_cells w #[.int .i64 op, .int .i64 sm, .int .i64 sr, .int .i64 sx, .int .i64 dm, .int .i64 dr, .int .i64 dx, .int .i64 n] 69)
 have HB := hide (box_below w (Obj.cells #[.int .i64 op, .int .i64 sm, .int .i64 sr, .int .i64 sx, .int .i64 dm, .int .i64 dr, .int .i64 dx, .int .i64 n] 69))
 unfold Is.v
 simp only
 cases hA : inB op 1 6
 ·
  cases hB1 : inB op 7 14
  ·
   cases hC : (op == 15)
   ·
    cases hz1 : Od.zero ⟨sm, sr, sx⟩
    ·
     have HR := hide (show false = Is.ok ⟨op, ⟨sm, sr, sx⟩, ⟨dm, dr, dx⟩, n⟩ by simp [Is.ok, *])
     go_enter Tryz.func88, Tryz.ntmps88
     go_wp2_with (go_at_call 31; refine (in_any _ _ _ _).mono ?_; rintro e w' ⟨rfl, hw'⟩; rw [hw']; clear hw' w')
     refine (zero_any ⟨sm, sr, sx⟩ _).mono ?_
     rintro e w1 ⟨rfl, hb1⟩
     rw [uh HZ] at hb1
     have Bz1 := hb1
     have a0 := uh HCL w1 Bz1 0 _ rfl
     have a1 := uh HCL w1 Bz1 1 _ rfl
     have a2 := uh HCL w1 Bz1 2 _ rfl
     have a3 := uh HCL w1 Bz1 3 _ rfl
     have a4 := uh HCL w1 Bz1 4 _ rfl
     have a5 := uh HCL w1 Bz1 5 _ rfl
     have a6 := uh HCL w1 Bz1 6 _ rfl
     have a7 := uh HCL w1 Bz1 7 _ rfl
     rw [hz1]
     go_wp2_with (go_at_call 31; refine (in_any _ _ _ _).mono ?_; rintro e w' ⟨rfl, hw'⟩; rw [hw']; clear hw' w')
     go_ret
     exact ⟨by rw [← uh HR]; rfl, uh HB _ Bz1⟩
    ·
     cases hz2 : Od.zero ⟨dm, dr, dx⟩
     ·
      have HR := hide (show false = Is.ok ⟨op, ⟨sm, sr, sx⟩, ⟨dm, dr, dx⟩, n⟩ by simp [Is.ok, *])
      go_enter Tryz.func88, Tryz.ntmps88
      go_wp2_with (go_at_call 31; refine (in_any _ _ _ _).mono ?_; rintro e w' ⟨rfl, hw'⟩; rw [hw']; clear hw' w')
      refine (zero_any ⟨sm, sr, sx⟩ _).mono ?_
      rintro e w1 ⟨rfl, hb1⟩
      rw [uh HZ] at hb1
      have Bz1 := hb1
      have a0 := uh HCL w1 Bz1 0 _ rfl
      have a1 := uh HCL w1 Bz1 1 _ rfl
      have a2 := uh HCL w1 Bz1 2 _ rfl
      have a3 := uh HCL w1 Bz1 3 _ rfl
      have a4 := uh HCL w1 Bz1 4 _ rfl
      have a5 := uh HCL w1 Bz1 5 _ rfl
      have a6 := uh HCL w1 Bz1 6 _ rfl
      have a7 := uh HCL w1 Bz1 7 _ rfl
      rw [hz1]
      clear hb1
      go_wp2_with (go_at_call 31; refine (in_any _ _ _ _).mono ?_; rintro e w' ⟨rfl, hw'⟩; rw [hw']; clear hw' w')
      refine (zero_any ⟨dm, dr, dx⟩ _).mono ?_
      rintro e w2 ⟨rfl, hb2⟩
      have Bz2 := Bz1.trans (hb2.mono (by have := Bz1.size; rw [uh HZ] at this; exact this))
      have a0 := uh HCL w2 Bz2 0 _ rfl
      have a1 := uh HCL w2 Bz2 1 _ rfl
      have a2 := uh HCL w2 Bz2 2 _ rfl
      have a3 := uh HCL w2 Bz2 3 _ rfl
      have a4 := uh HCL w2 Bz2 4 _ rfl
      have a5 := uh HCL w2 Bz2 5 _ rfl
      have a6 := uh HCL w2 Bz2 6 _ rfl
      have a7 := uh HCL w2 Bz2 7 _ rfl
      rw [hz2]
      go_wp2_with (go_at_call 31; refine (in_any _ _ _ _).mono ?_; rintro e w' ⟨rfl, hw'⟩; rw [hw']; clear hw' w')
      go_ret
      exact ⟨by rw [← uh HR]; rfl, uh HB _ Bz2⟩
     ·
      cases h16 : (op == 16)
      ·
       cases h17 : inB op 17 21
       ·
        cases h22 : (op == 22)
        ·
         cases h23 : (op == 23)
         ·
          have HR := hide (show false = Is.ok ⟨op, ⟨sm, sr, sx⟩, ⟨dm, dr, dx⟩, n⟩ by simp [Is.ok, *])
          go_enter Tryz.func88, Tryz.ntmps88
          go_wp2_with (go_at_call 31; refine (in_any _ _ _ _).mono ?_; rintro e w' ⟨rfl, hw'⟩; rw [hw']; clear hw' w')
          refine (zero_any ⟨sm, sr, sx⟩ _).mono ?_
          rintro e w1 ⟨rfl, hb1⟩
          rw [uh HZ] at hb1
          have Bz1 := hb1
          have a0 := uh HCL w1 Bz1 0 _ rfl
          have a1 := uh HCL w1 Bz1 1 _ rfl
          have a2 := uh HCL w1 Bz1 2 _ rfl
          have a3 := uh HCL w1 Bz1 3 _ rfl
          have a4 := uh HCL w1 Bz1 4 _ rfl
          have a5 := uh HCL w1 Bz1 5 _ rfl
          have a6 := uh HCL w1 Bz1 6 _ rfl
          have a7 := uh HCL w1 Bz1 7 _ rfl
          rw [hz1]
          clear hb1
          go_wp2_with (go_at_call 31; refine (in_any _ _ _ _).mono ?_; rintro e w' ⟨rfl, hw'⟩; rw [hw']; clear hw' w')
          refine (zero_any ⟨dm, dr, dx⟩ _).mono ?_
          rintro e w2 ⟨rfl, hb2⟩
          have Bz2 := Bz1.trans (hb2.mono (by have := Bz1.size; rw [uh HZ] at this; exact this))
          have a0 := uh HCL w2 Bz2 0 _ rfl
          have a1 := uh HCL w2 Bz2 1 _ rfl
          have a2 := uh HCL w2 Bz2 2 _ rfl
          have a3 := uh HCL w2 Bz2 3 _ rfl
          have a4 := uh HCL w2 Bz2 4 _ rfl
          have a5 := uh HCL w2 Bz2 5 _ rfl
          have a6 := uh HCL w2 Bz2 6 _ rfl
          have a7 := uh HCL w2 Bz2 7 _ rfl
          rw [hz2]
          go_wp2_with (go_at_call 31; refine (in_any _ _ _ _).mono ?_; rintro e w' ⟨rfl, hw'⟩; rw [hw']; clear hw' w')
          go_ret
          exact ⟨by rw [← uh HR]; rfl, uh HB _ Bz2⟩
         ·
          have HR := hide (show inB n 0 255 = Is.ok ⟨op, ⟨sm, sr, sx⟩, ⟨dm, dr, dx⟩, n⟩ by simp [Is.ok, *])
          go_enter Tryz.func88, Tryz.ntmps88
          go_wp2_with (go_at_call 31; refine (in_any _ _ _ _).mono ?_; rintro e w' ⟨rfl, hw'⟩; rw [hw']; clear hw' w')
          refine (zero_any ⟨sm, sr, sx⟩ _).mono ?_
          rintro e w1 ⟨rfl, hb1⟩
          rw [uh HZ] at hb1
          have Bz1 := hb1
          have a0 := uh HCL w1 Bz1 0 _ rfl
          have a1 := uh HCL w1 Bz1 1 _ rfl
          have a2 := uh HCL w1 Bz1 2 _ rfl
          have a3 := uh HCL w1 Bz1 3 _ rfl
          have a4 := uh HCL w1 Bz1 4 _ rfl
          have a5 := uh HCL w1 Bz1 5 _ rfl
          have a6 := uh HCL w1 Bz1 6 _ rfl
          have a7 := uh HCL w1 Bz1 7 _ rfl
          rw [hz1]
          clear hb1
          go_wp2_with (go_at_call 31; refine (in_any _ _ _ _).mono ?_; rintro e w' ⟨rfl, hw'⟩; rw [hw']; clear hw' w')
          refine (zero_any ⟨dm, dr, dx⟩ _).mono ?_
          rintro e w2 ⟨rfl, hb2⟩
          have Bz2 := Bz1.trans (hb2.mono (by have := Bz1.size; rw [uh HZ] at this; exact this))
          have a0 := uh HCL w2 Bz2 0 _ rfl
          have a1 := uh HCL w2 Bz2 1 _ rfl
          have a2 := uh HCL w2 Bz2 2 _ rfl
          have a3 := uh HCL w2 Bz2 3 _ rfl
          have a4 := uh HCL w2 Bz2 4 _ rfl
          have a5 := uh HCL w2 Bz2 5 _ rfl
          have a6 := uh HCL w2 Bz2 6 _ rfl
          have a7 := uh HCL w2 Bz2 7 _ rfl
          rw [hz2]
          go_wp2_with (go_at_call 31; refine (in_any _ _ _ _).mono ?_; rintro e w' ⟨rfl, hw'⟩; rw [hw']; clear hw' w')
          go_ret
          exact ⟨by rw [← uh HR]; rfl, uh HB _ Bz2⟩
        ·
         have HR := hide (show (n == 0) = Is.ok ⟨op, ⟨sm, sr, sx⟩, ⟨dm, dr, dx⟩, n⟩ by simp [Is.ok, *])
         go_enter Tryz.func88, Tryz.ntmps88
         go_wp2_with (go_at_call 31; refine (in_any _ _ _ _).mono ?_; rintro e w' ⟨rfl, hw'⟩; rw [hw']; clear hw' w')
         refine (zero_any ⟨sm, sr, sx⟩ _).mono ?_
         rintro e w1 ⟨rfl, hb1⟩
         rw [uh HZ] at hb1
         have Bz1 := hb1
         have a0 := uh HCL w1 Bz1 0 _ rfl
         have a1 := uh HCL w1 Bz1 1 _ rfl
         have a2 := uh HCL w1 Bz1 2 _ rfl
         have a3 := uh HCL w1 Bz1 3 _ rfl
         have a4 := uh HCL w1 Bz1 4 _ rfl
         have a5 := uh HCL w1 Bz1 5 _ rfl
         have a6 := uh HCL w1 Bz1 6 _ rfl
         have a7 := uh HCL w1 Bz1 7 _ rfl
         rw [hz1]
         clear hb1
         go_wp2_with (go_at_call 31; refine (in_any _ _ _ _).mono ?_; rintro e w' ⟨rfl, hw'⟩; rw [hw']; clear hw' w')
         refine (zero_any ⟨dm, dr, dx⟩ _).mono ?_
         rintro e w2 ⟨rfl, hb2⟩
         have Bz2 := Bz1.trans (hb2.mono (by have := Bz1.size; rw [uh HZ] at this; exact this))
         have a0 := uh HCL w2 Bz2 0 _ rfl
         have a1 := uh HCL w2 Bz2 1 _ rfl
         have a2 := uh HCL w2 Bz2 2 _ rfl
         have a3 := uh HCL w2 Bz2 3 _ rfl
         have a4 := uh HCL w2 Bz2 4 _ rfl
         have a5 := uh HCL w2 Bz2 5 _ rfl
         have a6 := uh HCL w2 Bz2 6 _ rfl
         have a7 := uh HCL w2 Bz2 7 _ rfl
         rw [hz2]
         go_wp2_with (go_at_call 31; refine (in_any _ _ _ _).mono ?_; rintro e w' ⟨rfl, hw'⟩; rw [hw']; clear hw' w')
         go_ret
         exact ⟨by rw [← uh HR]; rfl, uh HB _ Bz2⟩
       ·
        have HR := hide (show inB n (-128) 127 = Is.ok ⟨op, ⟨sm, sr, sx⟩, ⟨dm, dr, dx⟩, n⟩ by simp [Is.ok, *])
        go_enter Tryz.func88, Tryz.ntmps88
        go_wp2_with (go_at_call 31; refine (in_any _ _ _ _).mono ?_; rintro e w' ⟨rfl, hw'⟩; rw [hw']; clear hw' w')
        refine (zero_any ⟨sm, sr, sx⟩ _).mono ?_
        rintro e w1 ⟨rfl, hb1⟩
        rw [uh HZ] at hb1
        have Bz1 := hb1
        have a0 := uh HCL w1 Bz1 0 _ rfl
        have a1 := uh HCL w1 Bz1 1 _ rfl
        have a2 := uh HCL w1 Bz1 2 _ rfl
        have a3 := uh HCL w1 Bz1 3 _ rfl
        have a4 := uh HCL w1 Bz1 4 _ rfl
        have a5 := uh HCL w1 Bz1 5 _ rfl
        have a6 := uh HCL w1 Bz1 6 _ rfl
        have a7 := uh HCL w1 Bz1 7 _ rfl
        rw [hz1]
        clear hb1
        go_wp2_with (go_at_call 31; refine (in_any _ _ _ _).mono ?_; rintro e w' ⟨rfl, hw'⟩; rw [hw']; clear hw' w')
        refine (zero_any ⟨dm, dr, dx⟩ _).mono ?_
        rintro e w2 ⟨rfl, hb2⟩
        have Bz2 := Bz1.trans (hb2.mono (by have := Bz1.size; rw [uh HZ] at this; exact this))
        have a0 := uh HCL w2 Bz2 0 _ rfl
        have a1 := uh HCL w2 Bz2 1 _ rfl
        have a2 := uh HCL w2 Bz2 2 _ rfl
        have a3 := uh HCL w2 Bz2 3 _ rfl
        have a4 := uh HCL w2 Bz2 4 _ rfl
        have a5 := uh HCL w2 Bz2 5 _ rfl
        have a6 := uh HCL w2 Bz2 6 _ rfl
        have a7 := uh HCL w2 Bz2 7 _ rfl
        rw [hz2]
        go_wp2_with (go_at_call 31; refine (in_any _ _ _ _).mono ?_; rintro e w' ⟨rfl, hw'⟩; rw [hw']; clear hw' w')
        go_ret
        exact ⟨by rw [← uh HR]; rfl, uh HB _ Bz2⟩
      ·
       have HR := hide (show inB n 0 7 = Is.ok ⟨op, ⟨sm, sr, sx⟩, ⟨dm, dr, dx⟩, n⟩ by simp [Is.ok, *])
       go_enter Tryz.func88, Tryz.ntmps88
       go_wp2_with (go_at_call 31; refine (in_any _ _ _ _).mono ?_; rintro e w' ⟨rfl, hw'⟩; rw [hw']; clear hw' w')
       refine (zero_any ⟨sm, sr, sx⟩ _).mono ?_
       rintro e w1 ⟨rfl, hb1⟩
       rw [uh HZ] at hb1
       have Bz1 := hb1
       have a0 := uh HCL w1 Bz1 0 _ rfl
       have a1 := uh HCL w1 Bz1 1 _ rfl
       have a2 := uh HCL w1 Bz1 2 _ rfl
       have a3 := uh HCL w1 Bz1 3 _ rfl
       have a4 := uh HCL w1 Bz1 4 _ rfl
       have a5 := uh HCL w1 Bz1 5 _ rfl
       have a6 := uh HCL w1 Bz1 6 _ rfl
       have a7 := uh HCL w1 Bz1 7 _ rfl
       rw [hz1]
       clear hb1
       go_wp2_with (go_at_call 31; refine (in_any _ _ _ _).mono ?_; rintro e w' ⟨rfl, hw'⟩; rw [hw']; clear hw' w')
       refine (zero_any ⟨dm, dr, dx⟩ _).mono ?_
       rintro e w2 ⟨rfl, hb2⟩
       have Bz2 := Bz1.trans (hb2.mono (by have := Bz1.size; rw [uh HZ] at this; exact this))
       have a0 := uh HCL w2 Bz2 0 _ rfl
       have a1 := uh HCL w2 Bz2 1 _ rfl
       have a2 := uh HCL w2 Bz2 2 _ rfl
       have a3 := uh HCL w2 Bz2 3 _ rfl
       have a4 := uh HCL w2 Bz2 4 _ rfl
       have a5 := uh HCL w2 Bz2 5 _ rfl
       have a6 := uh HCL w2 Bz2 6 _ rfl
       have a7 := uh HCL w2 Bz2 7 _ rfl
       rw [hz2]
       go_wp2_with (go_at_call 31; refine (in_any _ _ _ _).mono ?_; rintro e w' ⟨rfl, hw'⟩; rw [hw']; clear hw' w')
       go_ret
       exact ⟨by rw [← uh HR]; rfl, uh HB _ Bz2⟩
   ·
    cases hs : Od.zero ⟨sm, sr, sx⟩
    ·
     have HR := hide (show false = Is.ok ⟨op, ⟨sm, sr, sx⟩, ⟨dm, dr, dx⟩, n⟩ by simp [Is.ok, *])
     go_enter Tryz.func88, Tryz.ntmps88
     go_wp2_with (go_at_call 31; refine (in_any _ _ _ _).mono ?_; rintro e w' ⟨rfl, hw'⟩; rw [hw']; clear hw' w')
     refine (zero_any ⟨sm, sr, sx⟩ _).mono ?_
     rintro e w1 ⟨rfl, hb1⟩
     rw [uh HZ] at hb1
     have Bz1 := hb1
     have a0 := uh HCL w1 Bz1 0 _ rfl
     have a1 := uh HCL w1 Bz1 1 _ rfl
     have a2 := uh HCL w1 Bz1 2 _ rfl
     have a3 := uh HCL w1 Bz1 3 _ rfl
     have a4 := uh HCL w1 Bz1 4 _ rfl
     have a5 := uh HCL w1 Bz1 5 _ rfl
     have a6 := uh HCL w1 Bz1 6 _ rfl
     have a7 := uh HCL w1 Bz1 7 _ rfl
     rw [hs]
     go_wp2_with (go_at_call 31; refine (in_any _ _ _ _).mono ?_; rintro e w' ⟨rfl, hw'⟩; rw [hw']; clear hw' w')
     go_ret
     exact ⟨by rw [← uh HR]; rfl, uh HB _ Bz1⟩
    ·
     cases hd : Od.ok ⟨dm, dr, dx⟩
     ·
      have HR := hide (show false = Is.ok ⟨op, ⟨sm, sr, sx⟩, ⟨dm, dr, dx⟩, n⟩ by simp [Is.ok, *])
      go_enter Tryz.func88, Tryz.ntmps88
      go_wp2_with (go_at_call 31; refine (in_any _ _ _ _).mono ?_; rintro e w' ⟨rfl, hw'⟩; rw [hw']; clear hw' w')
      refine (zero_any ⟨sm, sr, sx⟩ _).mono ?_
      rintro e w1 ⟨rfl, hb1⟩
      rw [uh HZ] at hb1
      have Bz1 := hb1
      have a0 := uh HCL w1 Bz1 0 _ rfl
      have a1 := uh HCL w1 Bz1 1 _ rfl
      have a2 := uh HCL w1 Bz1 2 _ rfl
      have a3 := uh HCL w1 Bz1 3 _ rfl
      have a4 := uh HCL w1 Bz1 4 _ rfl
      have a5 := uh HCL w1 Bz1 5 _ rfl
      have a6 := uh HCL w1 Bz1 6 _ rfl
      have a7 := uh HCL w1 Bz1 7 _ rfl
      rw [hs]
      clear hb1
      go_wp2_with (go_at_call 31; refine (in_any _ _ _ _).mono ?_; rintro e w' ⟨rfl, hw'⟩; rw [hw']; clear hw' w')
      refine (opdOk_any ⟨dm, dr, dx⟩ _).mono ?_
      rintro e w2 ⟨rfl, hb2⟩
      have Bz2 := Bz1.trans (hb2.mono (by have := Bz1.size; rw [uh HZ] at this; exact this))
      have a0 := uh HCL w2 Bz2 0 _ rfl
      have a1 := uh HCL w2 Bz2 1 _ rfl
      have a2 := uh HCL w2 Bz2 2 _ rfl
      have a3 := uh HCL w2 Bz2 3 _ rfl
      have a4 := uh HCL w2 Bz2 4 _ rfl
      have a5 := uh HCL w2 Bz2 5 _ rfl
      have a6 := uh HCL w2 Bz2 6 _ rfl
      have a7 := uh HCL w2 Bz2 7 _ rfl
      rw [hd]
      go_wp2_with (go_at_call 31; refine (in_any _ _ _ _).mono ?_; rintro e w' ⟨rfl, hw'⟩; rw [hw']; clear hw' w')
      go_ret
      exact ⟨by rw [← uh HR]; rfl, uh HB _ Bz2⟩
     ·
      have HR := hide (show inB n 0 7 = Is.ok ⟨op, ⟨sm, sr, sx⟩, ⟨dm, dr, dx⟩, n⟩ by simp [Is.ok, *])
      go_enter Tryz.func88, Tryz.ntmps88
      go_wp2_with (go_at_call 31; refine (in_any _ _ _ _).mono ?_; rintro e w' ⟨rfl, hw'⟩; rw [hw']; clear hw' w')
      refine (zero_any ⟨sm, sr, sx⟩ _).mono ?_
      rintro e w1 ⟨rfl, hb1⟩
      rw [uh HZ] at hb1
      have Bz1 := hb1
      have a0 := uh HCL w1 Bz1 0 _ rfl
      have a1 := uh HCL w1 Bz1 1 _ rfl
      have a2 := uh HCL w1 Bz1 2 _ rfl
      have a3 := uh HCL w1 Bz1 3 _ rfl
      have a4 := uh HCL w1 Bz1 4 _ rfl
      have a5 := uh HCL w1 Bz1 5 _ rfl
      have a6 := uh HCL w1 Bz1 6 _ rfl
      have a7 := uh HCL w1 Bz1 7 _ rfl
      rw [hs]
      clear hb1
      go_wp2_with (go_at_call 31; refine (in_any _ _ _ _).mono ?_; rintro e w' ⟨rfl, hw'⟩; rw [hw']; clear hw' w')
      refine (opdOk_any ⟨dm, dr, dx⟩ _).mono ?_
      rintro e w2 ⟨rfl, hb2⟩
      have Bz2 := Bz1.trans (hb2.mono (by have := Bz1.size; rw [uh HZ] at this; exact this))
      have a0 := uh HCL w2 Bz2 0 _ rfl
      have a1 := uh HCL w2 Bz2 1 _ rfl
      have a2 := uh HCL w2 Bz2 2 _ rfl
      have a3 := uh HCL w2 Bz2 3 _ rfl
      have a4 := uh HCL w2 Bz2 4 _ rfl
      have a5 := uh HCL w2 Bz2 5 _ rfl
      have a6 := uh HCL w2 Bz2 6 _ rfl
      have a7 := uh HCL w2 Bz2 7 _ rfl
      rw [hd]
      go_wp2_with (go_at_call 31; refine (in_any _ _ _ _).mono ?_; rintro e w' ⟨rfl, hw'⟩; rw [hw']; clear hw' w')
      go_ret
      exact ⟨by rw [← uh HR]; rfl, uh HB _ Bz2⟩
  ·
   cases hs : Od.zero ⟨sm, sr, sx⟩
   ·
    have HR := hide (show false = Is.ok ⟨op, ⟨sm, sr, sx⟩, ⟨dm, dr, dx⟩, n⟩ by simp [Is.ok, *])
    go_enter Tryz.func88, Tryz.ntmps88
    go_wp2_with (go_at_call 31; refine (in_any _ _ _ _).mono ?_; rintro e w' ⟨rfl, hw'⟩; rw [hw']; clear hw' w')
    refine (zero_any ⟨sm, sr, sx⟩ _).mono ?_
    rintro e w1 ⟨rfl, hb1⟩
    rw [uh HZ] at hb1
    have Bz1 := hb1
    have a0 := uh HCL w1 Bz1 0 _ rfl
    have a1 := uh HCL w1 Bz1 1 _ rfl
    have a2 := uh HCL w1 Bz1 2 _ rfl
    have a3 := uh HCL w1 Bz1 3 _ rfl
    have a4 := uh HCL w1 Bz1 4 _ rfl
    have a5 := uh HCL w1 Bz1 5 _ rfl
    have a6 := uh HCL w1 Bz1 6 _ rfl
    have a7 := uh HCL w1 Bz1 7 _ rfl
    rw [hs]
    go_wp2_with (go_at_call 31; refine (in_any _ _ _ _).mono ?_; rintro e w' ⟨rfl, hw'⟩; rw [hw']; clear hw' w')
    go_ret
    exact ⟨by rw [← uh HR]; rfl, uh HB _ Bz1⟩
   ·
    cases hd : Od.ok ⟨dm, dr, dx⟩
    ·
     have HR := hide (show false = Is.ok ⟨op, ⟨sm, sr, sx⟩, ⟨dm, dr, dx⟩, n⟩ by simp [Is.ok, *])
     go_enter Tryz.func88, Tryz.ntmps88
     go_wp2_with (go_at_call 31; refine (in_any _ _ _ _).mono ?_; rintro e w' ⟨rfl, hw'⟩; rw [hw']; clear hw' w')
     refine (zero_any ⟨sm, sr, sx⟩ _).mono ?_
     rintro e w1 ⟨rfl, hb1⟩
     rw [uh HZ] at hb1
     have Bz1 := hb1
     have a0 := uh HCL w1 Bz1 0 _ rfl
     have a1 := uh HCL w1 Bz1 1 _ rfl
     have a2 := uh HCL w1 Bz1 2 _ rfl
     have a3 := uh HCL w1 Bz1 3 _ rfl
     have a4 := uh HCL w1 Bz1 4 _ rfl
     have a5 := uh HCL w1 Bz1 5 _ rfl
     have a6 := uh HCL w1 Bz1 6 _ rfl
     have a7 := uh HCL w1 Bz1 7 _ rfl
     rw [hs]
     clear hb1
     go_wp2_with (go_at_call 31; refine (in_any _ _ _ _).mono ?_; rintro e w' ⟨rfl, hw'⟩; rw [hw']; clear hw' w')
     refine (opdOk_any ⟨dm, dr, dx⟩ _).mono ?_
     rintro e w2 ⟨rfl, hb2⟩
     have Bz2 := Bz1.trans (hb2.mono (by have := Bz1.size; rw [uh HZ] at this; exact this))
     have a0 := uh HCL w2 Bz2 0 _ rfl
     have a1 := uh HCL w2 Bz2 1 _ rfl
     have a2 := uh HCL w2 Bz2 2 _ rfl
     have a3 := uh HCL w2 Bz2 3 _ rfl
     have a4 := uh HCL w2 Bz2 4 _ rfl
     have a5 := uh HCL w2 Bz2 5 _ rfl
     have a6 := uh HCL w2 Bz2 6 _ rfl
     have a7 := uh HCL w2 Bz2 7 _ rfl
     rw [hd]
     go_wp2_with (go_at_call 31; refine (in_any _ _ _ _).mono ?_; rintro e w' ⟨rfl, hw'⟩; rw [hw']; clear hw' w')
     go_ret
     exact ⟨by rw [← uh HR]; rfl, uh HB _ Bz2⟩
    ·
     have HR := hide (show (n == 0) = Is.ok ⟨op, ⟨sm, sr, sx⟩, ⟨dm, dr, dx⟩, n⟩ by simp [Is.ok, *])
     go_enter Tryz.func88, Tryz.ntmps88
     go_wp2_with (go_at_call 31; refine (in_any _ _ _ _).mono ?_; rintro e w' ⟨rfl, hw'⟩; rw [hw']; clear hw' w')
     refine (zero_any ⟨sm, sr, sx⟩ _).mono ?_
     rintro e w1 ⟨rfl, hb1⟩
     rw [uh HZ] at hb1
     have Bz1 := hb1
     have a0 := uh HCL w1 Bz1 0 _ rfl
     have a1 := uh HCL w1 Bz1 1 _ rfl
     have a2 := uh HCL w1 Bz1 2 _ rfl
     have a3 := uh HCL w1 Bz1 3 _ rfl
     have a4 := uh HCL w1 Bz1 4 _ rfl
     have a5 := uh HCL w1 Bz1 5 _ rfl
     have a6 := uh HCL w1 Bz1 6 _ rfl
     have a7 := uh HCL w1 Bz1 7 _ rfl
     rw [hs]
     clear hb1
     go_wp2_with (go_at_call 31; refine (in_any _ _ _ _).mono ?_; rintro e w' ⟨rfl, hw'⟩; rw [hw']; clear hw' w')
     refine (opdOk_any ⟨dm, dr, dx⟩ _).mono ?_
     rintro e w2 ⟨rfl, hb2⟩
     have Bz2 := Bz1.trans (hb2.mono (by have := Bz1.size; rw [uh HZ] at this; exact this))
     have a0 := uh HCL w2 Bz2 0 _ rfl
     have a1 := uh HCL w2 Bz2 1 _ rfl
     have a2 := uh HCL w2 Bz2 2 _ rfl
     have a3 := uh HCL w2 Bz2 3 _ rfl
     have a4 := uh HCL w2 Bz2 4 _ rfl
     have a5 := uh HCL w2 Bz2 5 _ rfl
     have a6 := uh HCL w2 Bz2 6 _ rfl
     have a7 := uh HCL w2 Bz2 7 _ rfl
     rw [hd]
     go_wp2_with (go_at_call 31; refine (in_any _ _ _ _).mono ?_; rintro e w' ⟨rfl, hw'⟩; rw [hw']; clear hw' w')
     go_ret
     exact ⟨by rw [← uh HR]; rfl, uh HB _ Bz2⟩
 ·
  cases hs : Od.ok ⟨sm, sr, sx⟩
  ·
   have HR := hide (show false = Is.ok ⟨op, ⟨sm, sr, sx⟩, ⟨dm, dr, dx⟩, n⟩ by simp [Is.ok, *])
   go_enter Tryz.func88, Tryz.ntmps88
   go_wp2_with (go_at_call 31; refine (in_any _ _ _ _).mono ?_; rintro e w' ⟨rfl, hw'⟩; rw [hw']; clear hw' w')
   refine (opdOk_any ⟨sm, sr, sx⟩ _).mono ?_
   rintro e w1 ⟨rfl, hb1⟩
   rw [uh HZ] at hb1
   have Bz1 := hb1
   have a0 := uh HCL w1 Bz1 0 _ rfl
   have a1 := uh HCL w1 Bz1 1 _ rfl
   have a2 := uh HCL w1 Bz1 2 _ rfl
   have a3 := uh HCL w1 Bz1 3 _ rfl
   have a4 := uh HCL w1 Bz1 4 _ rfl
   have a5 := uh HCL w1 Bz1 5 _ rfl
   have a6 := uh HCL w1 Bz1 6 _ rfl
   have a7 := uh HCL w1 Bz1 7 _ rfl
   rw [hs]
   go_wp2_with (go_at_call 31; refine (in_any _ _ _ _).mono ?_; rintro e w' ⟨rfl, hw'⟩; rw [hw']; clear hw' w')
   go_ret
   exact ⟨by rw [← uh HR]; rfl, uh HB _ Bz1⟩
  ·
   cases hd : Od.ok ⟨dm, dr, dx⟩
   ·
    have HR := hide (show false = Is.ok ⟨op, ⟨sm, sr, sx⟩, ⟨dm, dr, dx⟩, n⟩ by simp [Is.ok, *])
    go_enter Tryz.func88, Tryz.ntmps88
    go_wp2_with (go_at_call 31; refine (in_any _ _ _ _).mono ?_; rintro e w' ⟨rfl, hw'⟩; rw [hw']; clear hw' w')
    refine (opdOk_any ⟨sm, sr, sx⟩ _).mono ?_
    rintro e w1 ⟨rfl, hb1⟩
    rw [uh HZ] at hb1
    have Bz1 := hb1
    have a0 := uh HCL w1 Bz1 0 _ rfl
    have a1 := uh HCL w1 Bz1 1 _ rfl
    have a2 := uh HCL w1 Bz1 2 _ rfl
    have a3 := uh HCL w1 Bz1 3 _ rfl
    have a4 := uh HCL w1 Bz1 4 _ rfl
    have a5 := uh HCL w1 Bz1 5 _ rfl
    have a6 := uh HCL w1 Bz1 6 _ rfl
    have a7 := uh HCL w1 Bz1 7 _ rfl
    rw [hs]
    clear hb1
    go_wp2_with (go_at_call 31; refine (in_any _ _ _ _).mono ?_; rintro e w' ⟨rfl, hw'⟩; rw [hw']; clear hw' w')
    refine (opdOk_any ⟨dm, dr, dx⟩ _).mono ?_
    rintro e w2 ⟨rfl, hb2⟩
    have Bz2 := Bz1.trans (hb2.mono (by have := Bz1.size; rw [uh HZ] at this; exact this))
    have a0 := uh HCL w2 Bz2 0 _ rfl
    have a1 := uh HCL w2 Bz2 1 _ rfl
    have a2 := uh HCL w2 Bz2 2 _ rfl
    have a3 := uh HCL w2 Bz2 3 _ rfl
    have a4 := uh HCL w2 Bz2 4 _ rfl
    have a5 := uh HCL w2 Bz2 5 _ rfl
    have a6 := uh HCL w2 Bz2 6 _ rfl
    have a7 := uh HCL w2 Bz2 7 _ rfl
    rw [hd]
    go_wp2_with (go_at_call 31; refine (in_any _ _ _ _).mono ?_; rintro e w' ⟨rfl, hw'⟩; rw [hw']; clear hw' w')
    go_ret
    exact ⟨by rw [← uh HR]; rfl, uh HB _ Bz2⟩
   ·
    have HR := hide (show (n == 0) = Is.ok ⟨op, ⟨sm, sr, sx⟩, ⟨dm, dr, dx⟩, n⟩ by simp [Is.ok, *])
    go_enter Tryz.func88, Tryz.ntmps88
    go_wp2_with (go_at_call 31; refine (in_any _ _ _ _).mono ?_; rintro e w' ⟨rfl, hw'⟩; rw [hw']; clear hw' w')
    refine (opdOk_any ⟨sm, sr, sx⟩ _).mono ?_
    rintro e w1 ⟨rfl, hb1⟩
    rw [uh HZ] at hb1
    have Bz1 := hb1
    have a0 := uh HCL w1 Bz1 0 _ rfl
    have a1 := uh HCL w1 Bz1 1 _ rfl
    have a2 := uh HCL w1 Bz1 2 _ rfl
    have a3 := uh HCL w1 Bz1 3 _ rfl
    have a4 := uh HCL w1 Bz1 4 _ rfl
    have a5 := uh HCL w1 Bz1 5 _ rfl
    have a6 := uh HCL w1 Bz1 6 _ rfl
    have a7 := uh HCL w1 Bz1 7 _ rfl
    rw [hs]
    clear hb1
    go_wp2_with (go_at_call 31; refine (in_any _ _ _ _).mono ?_; rintro e w' ⟨rfl, hw'⟩; rw [hw']; clear hw' w')
    refine (opdOk_any ⟨dm, dr, dx⟩ _).mono ?_
    rintro e w2 ⟨rfl, hb2⟩
    have Bz2 := Bz1.trans (hb2.mono (by have := Bz1.size; rw [uh HZ] at this; exact this))
    have a0 := uh HCL w2 Bz2 0 _ rfl
    have a1 := uh HCL w2 Bz2 1 _ rfl
    have a2 := uh HCL w2 Bz2 2 _ rfl
    have a3 := uh HCL w2 Bz2 3 _ rfl
    have a4 := uh HCL w2 Bz2 4 _ rfl
    have a5 := uh HCL w2 Bz2 5 _ rfl
    have a6 := uh HCL w2 Bz2 6 _ rfl
    have a7 := uh HCL w2 Bz2 7 _ rfl
    rw [hd]
    go_wp2_with (go_at_call 31; refine (in_any _ _ _ _).mono ?_; rintro e w' ⟨rfl, hw'⟩; rw [hw']; clear hw' w')
    go_ret
    exact ⟨by rw [← uh HR]; rfl, uh HB _ Bz2⟩
section
def c8 (l : List Int) (j : Nat) : Value := .int .i64 (l.getD j 0)
def cs8 (l : List Int) : Array Value := #[c8 l 0, c8 l 1, c8 l 2, c8 l 3, c8 l 4, c8 l 5, c8 l 6, c8 l 7]
theorem row8 (w : World) (l : List Int) (t : TypeId) : (w.alloc (Obj.cells (cs8 l) t)).rowIs w.heap.size t 8 (c8 l) :=
 ⟨_, Array.getElem?_push_size, rfl, fun i hi => by
  obtain rfl | rfl | rfl | rfl | rfl | rfl | rfl | rfl : i = 0 ∨ i = 1 ∨ i = 2 ∨ i = 3 ∨ i = 4 ∨ i = 5 ∨ i = 6 ∨ i = 7 := by omega
  all_goals rfl⟩
theorem row8_heap {w : World} {b t : Nat} {l : List Int} (h : w.rowIs b t 8 (c8 l)) : w.heap[b]? = some (.cells (cs8 l) t (0, 0)) := by
 obtain ⟨c, hc, hs, hv⟩ := h
 rw [hc]
 congr 2
 apply Array.ext'
 apply List.ext_getElem?
 intro i
 by_cases hi : i < 8
 ·
  rw [Array.getElem?_toList, hv i hi]
  obtain rfl | rfl | rfl | rfl | rfl | rfl | rfl | rfl : i = 0 ∨ i = 1 ∨ i = 2 ∨ i = 3 ∨ i = 4 ∨ i = 5 ∨ i = 6 ∨ i = 7 := by omega
  all_goals rfl
 · rw [List.getElem?_eq_none (by simp; omega), List.getElem?_eq_none (by simp [cs8]; omega)]
theorem row8_set {w : World} {b t : Nat} {l l' : List Int} (h : w.rowIs b t 8 (c8 l)) (k : Nat) (x : Int) (he : ∀ j, j < 8 → (if j = k then Value.int .i64 x else c8 l j) = c8 l' j) : (w.setCell ⟨b, k, none⟩ (.int .i64 x)).rowIs b t 8 (c8 l') := (h.set k _).congr he
section
variable {w wr w' : World} {tb ti : TypeId} {l r o : List Int}
end
end
theorem info3 : (Tryz.prog.info? 3).map (fun i => (i.zero, i.size, i.bytes)) = some (some (.int .i64 0), 1, 8) := by kernel_rfl
def bAt (xs : List UInt8) (i : Nat) : Int := ((xs.getD i 0).toNat : Int)
theorem bAt_bd (xs : List UInt8) (i : Nat) : 0 ≤ bAt xs i ∧ bAt xs i ≤ 255 := by
 unfold bAt
 have := (xs.getD i 0).toNat_lt
 omega
def nAt (ns : List Int) (i : Nat) : Int := ns.getD i 0
theorem take_nAt (ns : List Int) (k : Nat) (h : k < ns.length) : ns.take (k + 1) = ns.take k ++ [nAt ns k] := by
 rw [List.take_succ_eq_append_getElem h]; simp [nAt, List.getElem?_eq_getElem h]
def RdN (w : World) (a : Option Addr) (ns : List Int) : Prop :=
 ns = [] ∨ ∃ b off, a = some ⟨b, off, none⟩ ∧ b < w.heap.size ∧ ∀ i, i < ns.length → w.cell? ⟨b, off + i, none⟩ = some (.int .i64 (nAt ns i))
theorem RdN.later {w w' : World} {a : Option Addr} {xs : List Int} (h : RdN w a xs) (hb : Below w.heap.size w w') : RdN w' a xs := by
 rcases h with h | ⟨b, off, ha, hlt, hc⟩
 · exact .inl h
 · exact .inr ⟨b, off, ha, Nat.lt_of_lt_of_le hlt hb.size, fun i hi => (hb.cell (p := ⟨b, off + i, none⟩) hlt).trans (hc i hi)⟩
def cellsN (ns : List Int) : List Value := ns.map fun n => .int .i64 n
theorem cellsN_length (ys : List Int) : (cellsN ys).length = ys.length := by simp [cellsN]
theorem cellsN_append (a b : List Int) : cellsN (a ++ b) = cellsN a ++ cellsN b := by simp [cellsN]
theorem cellsN_one (ys : List Int) : ∀ u ∈ cellsN ys, u.oneCell' = true := by
 intro u hu
 simp only [cellsN, List.mem_map] at hu
 obtain ⟨y, _, rfl⟩ := hu
 rfl
def OwnN (w : World) (B : Nat) (v : Value) (ns : List Int) : Prop := w.ownsRow B 3 1 v ns.length (cellsN ns)
theorem ownN_none (w : World) (B : Nat) : OwnN w B (.slice none 0 0) [] := ⟨rfl, .inl ⟨rfl, rfl⟩⟩
theorem ownN_empty (w : World) : OwnN (w.alloc (Obj.cells #[] 3)) w.heap.size (.slice (some ⟨w.heap.size, 0, none⟩) 0 0) [] :=
 World.ownsRow_lit w #[] 0 (Nat.le_refl _) (by decide) rfl
theorem OwnN.rd {w : World} {B : Nat} {v : Value} {ys : List Int} (h : OwnN w B v ys) : ∃ a cap, v = .slice a ys.length cap ∧ ys.length ≤ cap ∧ cap ≤ maxLen ∧ RdN w a ys ∧ (∀ ad, a = some ad → B ≤ ad.block) ∧ (a = none → cap = 0) := by
 obtain ⟨_, ⟨rfl, h0⟩ | ⟨g, cap, cur, rfl, hg, hh, hn, hm, hs, ht⟩⟩ := id h
 ·
  obtain rfl : ys = [] := List.eq_nil_of_length_eq_zero h0
  exact ⟨none, 0, rfl, Nat.le_refl _, Nat.zero_le _, .inl rfl, (fun _ h => by cases h), fun _ => rfl⟩
 ·
  refine ⟨_, cap, rfl, hn, hm, .inr ⟨g, 0, rfl, (Array.getElem?_eq_some_iff.1 hh).1, fun i hi => ?_⟩, (fun ad h => by cases h; exact hg), fun h => by cases h⟩
  have h2 := World.ownsRow.cellAt h i (by omega)
  rw [Nat.zero_add, h2]
  simp only [cellsN, List.getElem?_map, List.getElem?_eq_getElem hi, Option.map_some]
  unfold nAt
  rw [List.getD_eq_getElem?_getD, List.getElem?_eq_getElem hi]
  rfl
theorem OwnN.rd1 {w : World} {B : Nat} {a : Option Addr} {n cap : Nat} {ys : List Int} (h : OwnN w B (.slice a n cap) ys) : RdN w a ys := by
 obtain ⟨a', cap', e, _, _, hr, _⟩ := h.rd
 cases e
 exact hr
theorem OwnN.keep {w w' : World} {B : Nat} {v : Value} {ys : List Int} (h : OwnN w B v ys) (hs : ∀ g, v.ownBlock = some g → g < w.heap.size → w'.heap[g]? = w.heap[g]?) : OwnN w' B v ys := by
 obtain ⟨h1, h2 | ⟨g, cap, cur, rfl, hg, hh, r⟩⟩ := h
 · exact ⟨h1, .inl h2⟩
 · exact ⟨h1, .inr ⟨g, cap, cur, rfl, hg, (hs g rfl (Array.getElem?_eq_some_iff.1 hh).1).trans hh, r⟩⟩
theorem OwnN.later {w w' : World} {B : Nat} {v : Value} {ys : List Int} (h : OwnN w B v ys) (hb : Below w.heap.size w w') : OwnN w' B v ys := h.keep fun g _ hg => hb.block g hg
theorem OwnN.past {w w' : World} {B : Nat} {v : Value} {ys : List Int} {b : Nat} (h : OwnN w B v ys) (hb : w.grownBy w' (some b)) (hne : v.ownBlock ≠ some b) : OwnN w' B v ys :=
 h.keep fun g hv hg => hb.block g hg (by rw [← hv]; exact hne)
theorem OwnN.lt {w : World} {B : Nat} {v : Value} {ys : List Int} (h : OwnN w B v ys) {g : Nat} (hg : v.ownBlock = some g) : B ≤ g ∧ g < w.heap.size := World.ownsRow.lt h g hg
theorem OwnN.base {w : World} {B B' : Nat} {v : Value} {ys : List Int} (h : OwnN w B v ys) (hB : B' ≤ B) : OwnN w B' v ys := by
 obtain ⟨h1, h2 | ⟨g, cap, cur, e, hg, r⟩⟩ := h
 · exact ⟨h1, .inl h2⟩
 · exact ⟨h1, .inr ⟨g, cap, cur, e, Nat.le_trans hB hg, r⟩⟩
theorem OwnN.form {w : World} {B : Nat} {v : Value} {ys : List Int} (h : OwnN w B v ys) : (v = .slice none 0 0 ∧ ys = []) ∨ ∃ g cap, v = .slice (some ⟨g, 0, none⟩) ys.length cap ∧ B ≤ g ∧ g < w.heap.size ∧ ys.length ≤ cap ∧ cap ≤ maxLen := by
 obtain ⟨_, ⟨h1, h2⟩ | ⟨g, cap, cur, rfl, hg, hh, hn, hm, r⟩⟩ := h
 · exact .inl ⟨h1, List.eq_nil_of_length_eq_zero h2⟩
 · exact .inr ⟨g, cap, rfl, hg, (Array.getElem?_eq_some_iff.1 hh).1, hn, hm⟩
theorem grownBy_trans {a b c : World} {r : Option Nat} (h : a.grownBy b r) (k : b.grownBy c r) : a.grownBy c r :=
 ⟨k.os.trans h.os, k.tape.trans h.tape, k.output.trans h.output, Nat.le_trans h.size k.size, fun j hj hn => (k.block j (Nat.lt_of_lt_of_le hj h.size) hn).trans (h.block j hj hn)⟩
theorem below_drewN {B : Nat} {a w : World} (h : Below B a w) (n : Nat) : Below B a (w.drewN n) := h.trans ⟨rfl, rfl, rfl, Nat.le_refl _, fun _ _ => rfl⟩
def IsRow (k : IntKind) (w : World) (a : Option Addr) (len cap : Nat) (zs : List Int) : Prop :=
 (a = none ∧ len = 0 ∧ cap = 0 ∧ zs = []) ∨
 ∃ x, a = some x ∧ len ≤ cap ∧ cap ≤ maxLen ∧ zs.length = cap ∧ (∀ i, i < zs.length → w.cell? (x.add i) = some (.int k (zs.getD i 0))) ∧ ∀ n ∈ zs, (Lit.int k n).wf = true
def Rd (w : World) (a : Option Addr) (xs : List UInt8) : Prop :=
 xs = [] ∨ ∃ b off, a = some ⟨b, off, none⟩ ∧ b < w.heap.size ∧ ∀ i, i < xs.length → w.cell? ⟨b, off + i, none⟩ = some (.int .u8 (bAt xs i))
theorem Rd.later {w w' : World} {a : Option Addr} {xs : List UInt8} (h : Rd w a xs) (hb : Below w.heap.size w w') : Rd w' a xs := by
 rcases h with h | ⟨b, off, ha, hlt, hc⟩
 · exact .inl h
 · exact .inr ⟨b, off, ha, Nat.lt_of_lt_of_le hlt hb.size, fun i hi => (hb.cell (p := ⟨b, off + i, none⟩) hlt).trans (hc i hi)⟩
theorem bytes_of_ints (zs : List Int) (h : ∀ n ∈ zs, (Lit.int .u8 n).wf = true) : ∃ xs : List UInt8, xs.length = zs.length ∧ ∀ i, i < zs.length → zs.getD i 0 = bAt xs i := by
 refine ⟨zs.map fun z => UInt8.ofNat z.toNat, by simp, fun i hi => ?_⟩
 have hb := bounds_u8 (h (zs.getD i 0) (by rw [List.getD_eq_getElem?_getD, List.getElem?_eq_getElem hi]; exact List.getElem_mem _))
 unfold bAt
 rw [List.getD_eq_getElem?_getD, List.getD_eq_getElem?_getD, List.getElem?_map, List.getElem?_eq_getElem hi] at *
 simp at hb ⊢
 omega
theorem rd_of_row {w : World} {a : Option Addr} {len cap : Nat} {zs : List Int} (h : IsRow .u8 w a len cap zs) :
  ∃ xs : List UInt8, xs.length = len ∧ len ≤ cap ∧ cap ≤ maxLen ∧ Rd w a xs := by
 rcases h with ⟨rfl, rfl, rfl, rfl⟩ | ⟨x, rfl, hl, hm, hz, hcell, hwz⟩
 · exact ⟨[], rfl, Nat.le_refl _, by unfold maxLen; omega, .inl rfl⟩
 ·
  obtain ⟨ys, hy, hv⟩ := bytes_of_ints zs hwz
  refine ⟨ys.take len, by simp; omega, hl, hm, ?_⟩
  by_cases h0 : len = 0
  · left; simp [h0]
  ·
   right
   obtain ⟨b, off, spot⟩ := x
   have h00 := hcell 0 (by omega)
   have hspot : spot = none := by simpa [Addr.add] using World.cell?_spot h00
   subst hspot
   refine ⟨b, off, rfl, World.block_lt_of_cell? w _ h00, fun i hi => ?_⟩
   have hi' : i < len := by simp at hi; omega
   have := hcell i (by omega)
   rw [hv i (by omega)] at this
   have e : bAt (ys.take len) i = bAt ys i := by
    unfold bAt
    rw [List.getD_eq_getElem?_getD, List.getD_eq_getElem?_getD, List.getElem?_take, if_pos hi']
   rw [e]
   exact (show w.cell? ⟨b, off + i, none⟩ = _ by have h2 := this; unfold Addr.add at h2; by_cases hi0 : i = 0 <;> simpa [hi0] using h2)
theorem Rd.alloc {w : World} {a : Option Addr} {xs : List UInt8} (h : Rd w a xs) (o : Obj) : Rd (w.alloc o) a xs := h.later ((Below.refl _ _).alloc (Nat.le_refl _) _)
theorem Rd.past {w w' : World} {a : Option Addr} {xs : List UInt8} {b : Nat} (h : Rd w a xs) (hb : w.grownBy w' (some b)) (hne : ∀ ad, a = some ad → ad.block ≠ b) : Rd w' a xs := by
 rcases h with h | ⟨c, off, rfl, hlt, hc⟩
 · exact .inl h
 · exact .inr ⟨c, off, rfl, Nat.lt_of_lt_of_le hlt hb.size, fun i hi => (World.cell?_of_block (w := w) (hb.block c hlt (by have := hne _ rfl; simpa using this))).trans (hc i hi)⟩
theorem i64_and255 (n : Int) : bits .and .i64 n 255 = n % 256 := by
 have h127 : (BitVec.ofInt 64 255).toNat = 2 ^ 8 - 1 := by decide
 have key : (BitVec.ofInt 64 n &&& BitVec.ofInt 64 255).toNat = (n % ((2 ^ 64 : Nat) : Int)).toNat % 2 ^ 8 := by
  rw [BitVec.toNat_and, BitVec.toNat_ofInt, h127, Nat.and_two_pow_sub_one_eq_mod]
 show IntKind.i64.wrap ((BitVec.ofInt 64 n &&& BitVec.ofInt 64 255).toNat : Nat) = n % 256
 rw [key, IntKind.wrap_i64]
 omega
structure Cur (w : World) (cb : Nat) (a : Option Addr) (len cap : Nat) (xs : List UInt8) : Prop where
 c0 : w.cell? ⟨cb, 0, none⟩ = some (.slice a len cap)
 c1 : ∃ i : Nat, i ≤ len ∧ w.cell? ⟨cb, 1, none⟩ = some (.int .i64 i)
 c2 : ∃ h : Int, w.cell? ⟨cb, 2, none⟩ = some (.int .i64 h)
 f1 : w.frozen? ⟨cb, 1, none⟩ = false
 f2 : w.frozen? ⟨cb, 2, none⟩ = false
 rd : Rd w a xs
 ln : xs.length = len
 lm : len ≤ 9223372036854775806
 ne : xs = [] ∨ ∀ ad, a = some ad → ad.block ≠ cb
theorem Cur.lt {w : World} {cb : Nat} {a : Option Addr} {len cap : Nat} {xs : List UInt8} (h : Cur w cb a len cap xs) : cb < w.heap.size := World.block_lt_of_cell? w _ h.c0
theorem grownBy_set {w : World} {b o : Nat} (v : Value) : w.grownBy (w.setCell ⟨b, o, none⟩ v) (some b) :=
 ⟨rfl, rfl, rfl, by simp, fun k _ hk => Below.heap_setCell w ⟨b, o, none⟩ v k (fun e => hk (by simp [e]))⟩
theorem grownBy_drewN {w : World} (n : Nat) (r : Option Nat) : w.grownBy (w.drewN n) r := ⟨rfl, rfl, rfl, Nat.le_refl _, fun _ _ _ => rfl⟩
theorem Rd.past' {w w' : World} {a : Option Addr} {xs : List UInt8} {b : Nat} (h : Rd w a xs) (hb : w.grownBy w' (some b)) (hne : xs = [] ∨ ∀ ad, a = some ad → ad.block ≠ b) : Rd w' a xs := by
 rcases hne with h0 | hne
 · exact .inl h0
 · exact h.past hb hne
theorem Cur.draw {w : World} {cb : Nat} {a : Option Addr} {len cap : Nat} {xs : List UInt8} (h : Cur w cb a len cap xs) (n : Nat) : Cur (w.drewN n) cb a len cap xs :=
 ⟨h.c0, h.c1, h.c2, h.f1, h.f2, h.rd.later ⟨rfl, rfl, rfl, Nat.le_refl _, fun _ _ => rfl⟩, h.ln, h.lm, h.ne⟩
theorem Cur.set2 {w : World} {cb : Nat} {a : Option Addr} {len cap : Nat} {xs : List UInt8} (h : Cur w cb a len cap xs) (H : Int) : Cur (w.setCell ⟨cb, 2, none⟩ (.int .i64 H)) cb a len cap xs := by
 have hg : w.grownBy (w.setCell ⟨cb, 2, none⟩ (.int .i64 H)) (some cb) := grownBy_set _
 obtain ⟨c0, ⟨i, hi, c1⟩, ⟨h, c2⟩, f1, f2, rd, ln, lm, ne⟩ := h
 have rd' := rd.past' hg ne
 clear hg rd
 refine ⟨?_, ⟨i, hi, ?_⟩, ⟨H, ?_⟩, ?_, ?_, rd', ln, lm, ne⟩ <;> clear ne rd' <;> go_simp
theorem Cur.set1 {w : World} {cb : Nat} {a : Option Addr} {len cap : Nat} {xs : List UInt8} (h : Cur w cb a len cap xs) (j : Nat) (hj : j ≤ len) (v : Int) (hv : v = (j : Int)) : Cur (w.setCell ⟨cb, 1, none⟩ (.int .i64 v)) cb a len cap xs := by
 subst hv
 have hg : w.grownBy (w.setCell ⟨cb, 1, none⟩ (.int .i64 j)) (some cb) := grownBy_set _
 obtain ⟨c0, ⟨i, hi, c1⟩, ⟨h, c2⟩, f1, f2, rd, ln, lm, ne⟩ := h
 have rd' := rd.past' hg ne
 clear hg rd
 refine ⟨?_, ⟨j, hj, ?_⟩, ⟨h, ?_⟩, ?_, ?_, rd', ln, lm, ne⟩ <;> clear ne rd' <;> go_simp
theorem byte_any (cb : Nat) (a : Option Addr) (len cap : Nat) (xs : List UInt8) (w : World) (hc : Cur w cb a len cap xs) :
  Calls Tryz.prog 42 #[.pointer (some ⟨cb, 0, none⟩)] w fun e w' => ∃ x : Int, 0 ≤ x ∧ x ≤ 255 ∧ e = .returned (.int .i64 x) ∧ Cur w' cb a len cap xs ∧ w.grownBy w' (some cb) := by
 have hcur := hide hc
 obtain ⟨c0, ⟨i, hi, c1⟩, ⟨h, c2⟩, f1, f2, rd, ln, lm, ne⟩ := hc
 by_cases hlt : i < len
 ·
  rcases rd with rfl | ⟨b, off, rfl, hb, hcell⟩
  · simp at ln; omega
  have hne : b ≠ cb := by
   rcases ne with h0 | ne
   · rw [h0] at ln; simp at ln; omega
   · exact ne _ rfl
  have hil : (i : Int) < (len : Int) := by omega
  have hcx : ∀ v : Value, (w.setCell ⟨cb, 2, none⟩ v).cell? ⟨b, off + i, none⟩ = some (.int .u8 (bAt xs i)) := fun v => by
   rw [World.cell?_of_block (w := w) (Below.heap_setCell w _ v b hne)]; exact hcell i (by omega)
  have hbd := bAt_bd xs i
  have ne' := hide ne
  have hcell' := hide hcell
  clear ne hcell
  go_enter Tryz.func42, Tryz.ntmps42
  go_wp2
  generalize wrap64 (wrap64 (h * 6364136223846793005) + 1442695040888963407) = H
  go_quiet (fail)
  go_wp2
  go_quiet (fail)
  go_wp2
  go_quiet (fail)
  go_wp2
  go_ret
  refine ⟨_, ?_, ?_, rfl, ?_, ?_⟩
  · rw [i64_and255]; omega
  · rw [i64_and255]; omega
  · exact (((uh hcur).set2 H).draw _).set1 (i + 1) hlt _ (by omega)
  · exact grownBy_trans (grownBy_trans (grownBy_set _) (grownBy_drewN _ _)) (grownBy_set _)
 ·
  have hil : ¬ (i : Int) < (len : Int) := by omega
  have ne' := hide ne
  clear ne
  go_enter Tryz.func42, Tryz.ntmps42
  go_wp2
  generalize wrap64 (wrap64 (h * 6364136223846793005) + 1442695040888963407) = H
  go_quiet (fail)
  go_wp2
  go_quiet (fail)
  go_wp2
  go_ret
  refine ⟨_, ?_, ?_, rfl, ?_, ?_⟩
  · rw [i64_and255]; omega
  · rw [i64_and255]; omega
  · exact (((uh hcur).set2 H).draw _).draw _
  · exact grownBy_trans (grownBy_trans (grownBy_set _) (grownBy_drewN _ _)) (grownBy_drewN _ _)
theorem Cur.code {w : World} {cb : Nat} {a : Option Addr} {len cap : Nat} {xs : List UInt8} (h : Cur w cb a len cap xs) : xs = [] ∨ ∀ ad, a = some ad → ad.block < w.heap.size := by
 rcases h.rd with h0 | ⟨b, off, rfl, hb, _⟩
 · exact .inl h0
 · exact .inr fun ad e => by cases e; exact hb
theorem Cur.past {w w' : World} {cb : Nat} {a : Option Addr} {len cap : Nat} {xs : List UInt8} {row : Option Nat} {B : Nat} (h : Cur w cb a len cap xs) (hg : w.grownBy w' row) (hB : cb < B) (hc : xs = [] ∨ ∀ ad, a = some ad → ad.block < B) (hr : ∀ g, row = some g → B ≤ g) : Cur w' cb a len cap xs := by
 have hlt := h.lt
 have hb : w'.heap[cb]? = w.heap[cb]? := hg.block cb hlt (fun e => by have := hr cb e.symm; omega)
 have hcell : ∀ o, w'.cell? ⟨cb, o, none⟩ = w.cell? ⟨cb, o, none⟩ := fun o => World.cell?_of_block (w := w) hb
 have hfr : ∀ o, w'.frozen? ⟨cb, o, none⟩ = w.frozen? ⟨cb, o, none⟩ := fun o => World.frozen?_of_block (w := w) hb
 refine ⟨(hcell 0).trans h.c0, ?_, ?_, (hfr 1).trans h.f1, (hfr 2).trans h.f2, ?_, h.ln, h.lm, h.ne⟩
 · obtain ⟨i, hi, c1⟩ := h.c1; exact ⟨i, hi, (hcell 1).trans c1⟩
 · obtain ⟨i, c2⟩ := h.c2; exact ⟨i, (hcell 2).trans c2⟩
 ·
  rcases hc with h0 | hc
  · exact .inl h0
  ·
   rcases h.rd with h0 | ⟨b, off, ha, hbl, hcl⟩
   · exact .inl h0
   ·
    refine .inr ⟨b, off, ha, Nat.lt_of_lt_of_le hbl hg.size, fun i hi => ?_⟩
    refine (World.cell?_of_block (w := w) (hg.block b hbl (fun e => ?_))).trans (hcl i hi)
    have h1 := hr b e.symm
    have h2 := hc _ ha
    simp at h2
    omega
theorem Cur.later {w w' : World} {cb : Nat} {a : Option Addr} {len cap : Nat} {xs : List UInt8} (h : Cur w cb a len cap xs) (hb : Below w.heap.size w w') : Cur w' cb a len cap xs :=
 h.past (row := none) (B := w.heap.size) ⟨hb.os, hb.tape, hb.output, hb.size, fun k hk _ => hb.block k hk⟩ h.lt h.code (fun g e => by cases e)
theorem grownBy_below {w w' : World} {r : Option Nat} (hb : Below w.heap.size w w') : w.grownBy w' r := ⟨hb.os, hb.tape, hb.output, hb.size, fun k hk _ => hb.block k hk⟩
theorem grownBy_own {w w1 w2 : World} {r row : Option Nat} (h : w.grownBy w1 r) (k : w1.grownBy w2 row) (hr : ∀ g, row = some g → w.heap.size ≤ g) : w.grownBy w2 r :=
 ⟨k.os.trans h.os, k.tape.trans h.tape, k.output.trans h.output, Nat.le_trans h.size k.size, fun j hj hn => (k.block j (Nat.lt_of_lt_of_le hj h.size) (fun e => by have := hr j e.symm; omega)).trans (h.block j hj hn)⟩
theorem below_any (cb : Nat) (a : Option Addr) (len cap : Nat) (xs : List UInt8) (n : Int) (w : World) (h63 : n ≤ 9223372036854775807) (hc : Cur w cb a len cap xs) :
  Calls Tryz.prog 19 #[.pointer (some ⟨cb, 0, none⟩), .int .i64 n] w fun e w' => ∃ x : Int, (0 < n → 0 ≤ x ∧ x < n) ∧ (n ≤ 0 → x = 0) ∧ e = .returned (.int .i64 x) ∧ Cur w' cb a len cap xs ∧ w.grownBy w' (some cb) := by
 by_cases h0 : n ≤ 0
 ·
  go_enter Tryz.func19, Tryz.ntmps19
  go_wp2
  go_ret
  exact ⟨0, fun h => by omega, fun _ => rfl, rfl, hc, World.grownBy.refl _ _⟩
 ·
  by_cases h1 : n ≤ 256
  ·
   have hp : 0 < n := by omega
   go_enter Tryz.func19, Tryz.ntmps19
   go_wp2_with fail
   refine (byte_any cb a len cap xs w hc).mono ?_
   rintro e w1 ⟨x, hx0, hx1, rfl, hc1, hg1⟩
   go_wp2
   go_ret
   exact ⟨_, fun _ => ⟨Int.emod_nonneg _ (by omega), Int.emod_lt_of_pos _ hp⟩, fun h => by omega, rfl, hc1, hg1⟩
  ·
   have hp : 0 < n := by omega
   go_enter Tryz.func19, Tryz.ntmps19
   go_wp2_with fail
   refine (byte_any cb a len cap xs w hc).mono ?_
   rintro e w1 ⟨x, hx0, hx1, rfl, hc1, hg1⟩
   go_wp2_with fail
   refine (byte_any cb a len cap xs w1 hc1).mono ?_
   rintro e w2 ⟨y, hy0, hy1, rfl, hc2, hg2⟩
   go_wp2_with fail
   refine (byte_any cb a len cap xs w2 hc2).mono ?_
   rintro e w3 ⟨z, hz0, hz1, rfl, hc3, hg3⟩
   go_wp2
   go_ret
   exact ⟨_, fun _ => ⟨Int.emod_nonneg _ (by omega), Int.emod_lt_of_pos _ hp⟩, fun h => by omega, rfl, hc3, grownBy_trans (grownBy_trans hg1 hg2) hg3⟩
theorem once_any (cb : Nat) (a : Option Addr) (len cap : Nat) (xs : List UInt8) (n : Int) (w : World) (h63 : n ≤ 9223372036854775807) (hc : Cur w cb a len cap xs) :
  Calls Tryz.prog 20 #[.pointer (some ⟨cb, 0, none⟩), .int .i64 n] w fun e w' => ∃ b : Bool, e = .returned (.bool b) ∧ Cur w' cb a len cap xs ∧ w.grownBy w' (some cb) := by
 go_enter Tryz.func20, Tryz.ntmps20
 go_wp2_with fail
 refine (below_any cb a len cap xs n w h63 hc).mono ?_
 rintro e w1 ⟨x, hx0, hx1, rfl, hc1, hg1⟩
 go_wp2
 go_ret
 exact ⟨_, rfl, hc1, hg1⟩
theorem RdN.past {w w' : World} {a : Option Addr} {ns : List Int} {b : Nat} (h : RdN w a ns) (hb : w.grownBy w' (some b)) (hne : ∀ ad, a = some ad → ad.block ≠ b) : RdN w' a ns := by
 rcases h with h | ⟨c, off, rfl, hlt, hc⟩
 · exact .inl h
 · exact .inr ⟨c, off, rfl, Nat.lt_of_lt_of_le hlt hb.size, fun i hi => (World.cell?_of_block (w := w) (hb.block c hlt (by have := hne _ rfl; simpa using this))).trans (hc i hi)⟩
theorem int_any (cb : Nat) (a : Option Addr) (len cap : Nat) (xs : List UInt8) (la : Option Addr) (m lc : Nat) (ns : List Int) (w : World) (hc : Cur w cb a len cap xs) (hn : RdN w la ns) (hne : ∀ ad, la = some ad → ad.block ≠ cb) (hm : ns.length = m) (h0 : 0 < m) (hb : m ≤ 1048576) :
  Calls Tryz.prog 41 #[.pointer (some ⟨cb, 0, none⟩), .slice la m lc] w fun e w' => ∃ j : Nat, j < m ∧ e = .returned (.int .i64 (nAt ns j)) ∧ Cur w' cb a len cap xs ∧ w.grownBy w' (some cb) := by
 rcases hn with rfl | ⟨b, off, rfl, hlt, hcl⟩
 · simp at hm; omega
 go_enter Tryz.func41, Tryz.ntmps41
 go_wp2_with fail
 refine (below_any cb a len cap xs m w (by omega) hc).mono ?_
 rintro e w1 ⟨x, hx0, hx1, rfl, hc1, hg1⟩
 obtain ⟨hx2, hx3⟩ := hx0 (by omega)
 obtain ⟨j, rfl⟩ := Int.eq_ofNat_of_zero_le hx2
 have hj : j < m := by omega
 have hcx : w1.cell? ⟨b, off + j, none⟩ = some (.int .i64 (nAt ns j)) := (World.cell?_of_block (w := w) (hg1.block b hlt (by have := hne _ rfl; simpa using this))).trans (hcl j (by omega))
 clear hx0 hx1 hcl
 go_wp2
 go_ret
 exact ⟨j, hj, rfl, hc1, hg1⟩
theorem i64_and30 (n : Int) : bits .and .i64 n 1073741823 = n % 1073741824 := by
 have h127 : (BitVec.ofInt 64 1073741823).toNat = 2 ^ 30 - 1 := by decide
 have key : (BitVec.ofInt 64 n &&& BitVec.ofInt 64 1073741823).toNat = (n % ((2 ^ 64 : Nat) : Int)).toNat % 2 ^ 30 := by
  rw [BitVec.toNat_and, BitVec.toNat_ofInt, h127, Nat.and_two_pow_sub_one_eq_mod]
 show IntKind.i64.wrap ((BitVec.ofInt 64 n &&& BitVec.ofInt 64 1073741823).toNat : Nat) = n % 1073741824
 rw [key, IntKind.wrap_i64]
 omega
theorem cur_new (w : World) (a : Option Addr) (len cap : Nat) (xs : List UInt8) (h : Int) (hl : xs.length = len) (hm : len ≤ 1048576) (hr : Rd w a xs) :
  Cur (w.alloc (.cells #[.slice a len cap, .int .i64 0, .int .i64 h] 57)) w.heap.size a len cap xs := by
 have hr' := hr.alloc (.cells #[.slice a len cap, .int .i64 0, .int .i64 h] 57)
 have hne : xs = [] ∨ ∀ ad, a = some ad → ad.block ≠ w.heap.size := by
  rcases hr with h0 | ⟨b, off, rfl, hb, _⟩
  · exact .inl h0
  · exact .inr fun ad e => by cases e; exact Nat.ne_of_lt hb
 clear hr
 refine ⟨?_, ⟨0, Nat.zero_le _, ?_⟩, ⟨h, ?_⟩, ?_, ?_, hr', hl, by omega, hne⟩ <;> clear hr' hne <;> go_simp
set_option maxRecDepth 100000 in
theorem new_any (a : Option Addr) (len cap : Nat) (xs : List UInt8) (w : World) (hl : xs.length = len) (hm : len ≤ 1048576) (hr : Rd w a xs) :
  Calls Tryz.prog 17 #[.slice a len cap] w fun e w' => e = .returned (.pointer (some ⟨w.heap.size, 0, none⟩)) ∧ Cur w' w.heap.size a len cap xs ∧ Below w.heap.size w w' := by
 go_enter Tryz.func17, Tryz.ntmps17
 go_wp2
 go_loop [3, 4] (fun n i => ∃ (k : Nat) (h : Int), k ≤ len ∧ 0 ≤ h ∧ h ≤ 1073741823 ∧ i = .int .i64 k ∧ n = .int .i64 h) (fun _ i => len - (intOf i).toNat)
 case atStart => exact ⟨0, _, Nat.zero_le _, by omega, by omega, rfl, rfl⟩
 case round =>
  obtain ⟨k, h, hk, hh0, hh1, rfl, rfl⟩ := hrel
  by_cases hlt : k < len
  ·
   by_cases h4 : k < 4000
   ·
    have hr0 := hr
    rcases hr with rfl | ⟨b, off, rfl, hb, hc⟩
    · simp at hl; omega
    have hcx := hc k (by omega)
    have hbd := bAt_bd xs k
    clear hc hr0
    go_wp2
    go_round
    case rel => exact ⟨k + 1, _, by omega, by rw [i64_and30]; omega, by rw [i64_and30]; omega, by go_num, rfl⟩
    case measure => simp [intOf]; omega
   ·
    go_wp2
    go_ret
    exact ⟨rfl, cur_new w a len cap xs h hl hm hr, (Below.refl _ _).alloc (Nat.le_refl _) _⟩
  ·
   go_wp2
   go_ret
   exact ⟨rfl, cur_new w a len cap xs h hl hm hr, (Below.refl _ _).alloc (Nat.le_refl _) _⟩
theorem RdN_lit (w : World) (ns : List Int) : RdN (w.alloc (.cells (ns.map (Value.int .i64)).toArray 3)) (some ⟨w.heap.size, 0, none⟩) ns := by
 refine .inr ⟨w.heap.size, 0, rfl, by simp, fun i hi => ?_⟩
 rw [World.cell?_alloc_at _ _ _ _ rfl]
 simp [nAt, hi]
theorem big_any (a : Option Addr) (len cap : Nat) (w : World) (hm : len ≤ 9223372036854775807) : Calls Tryz.prog 5 #[.slice a len cap] w fun e w' => e = .returned (.bool (decide ((1048576 : Int) < (len : Int)))) ∧ w' = w := by
 go_enter Tryz.func5, Tryz.ntmps5
 go_wp2
 go_ret
 exact ⟨rfl, rfl⟩
def baseL : List Int := [0, 4096, 8192, 16384, 20480, 24576, 57344, 2560, 2688, 2752, 2816, 3008, 3200, 3264, 64, 2048, 128, 256, 512, 768, 1024, 1280, 0, 34816]
def baseAt (k : Nat) : Int := baseL.getD k 0
theorem base_bd : ∀ i : Fin 24, 0 ≤ baseAt i.val ∧ baseAt i.val ≤ 57344 := by decide +kernel
theorem base_lit (k : Nat) (hk : k < 24) : ((baseL.map (Value.int .i64)).toArray)[k]? = some (.int .i64 (baseAt k)) := by
 rw [List.getElem?_toArray, List.getElem?_map]
 have : k < baseL.length := hk
 rw [List.getElem?_eq_getElem this]
 unfold baseAt
 rw [List.getD_eq_getElem?_getD, List.getElem?_eq_getElem this]
 rfl
theorem base_any (k : Nat) (hk : k < 24) (w : World) : Calls Tryz.prog 97 #[.int .i64 k] w fun e w' => e = .returned (.int .i64 (baseAt k)) ∧ Below w.heap.size w w' := by
 have hl := hide (base_lit k hk)
 go_enter Tryz.func97, Tryz.ntmps97
 go_wp2
 go_ret
 have hl2 := uh hl
 rw [List.getElem?_toArray] at hl2
 obtain ⟨_, hv⟩ := List.getElem?_eq_some_iff.1 hl2
 exact ⟨congrArg Ending.returned hv, (Below.refl _ _).alloc (Nat.le_refl _) _⟩
def Od.six (o : Od) : Int := o.m * 8 + o.r
theorem six_any (o : Od) (h : 0 ≤ o.m ∧ o.m ≤ 7 ∧ 0 ≤ o.r ∧ o.r ≤ 7) (w : World) : Calls Tryz.prog 98 #[o.v] w fun e w' => e = .returned (.int .i64 o.six) ∧ Below w.heap.size w w' := by
 obtain ⟨m, r, x⟩ := o
 unfold Od.v Od.six
 simp only at h ⊢
 go_enter Tryz.func98, Tryz.ntmps98
 go_wp2
 go_ret
 exact ⟨rfl, (Below.refl _ _).alloc (Nat.le_refl _) _⟩
def Is.code (i : Is) : Int :=
 if i.op ≤ 6 then baseAt i.op.toNat + i.s.six * 64 + i.d.six
 else if i.op ≤ 14 then baseAt i.op.toNat + i.d.six
 else if i.op = 15 then baseAt i.op.toNat + i.n * 64 + i.d.six
 else if i.op = 16 ∨ i.op = 23 then baseAt i.op.toNat + i.n
 else if i.op ≤ 21 then baseAt i.op.toNat + i.n % 256
 else baseAt i.op.toNat
def Is.xs (i : Is) : List Int := (if i.op ≤ 6 ∧ i.s.hasX = true then [i.s.x] else []) ++ (if i.op ≤ 15 ∧ i.d.hasX = true then [i.d.x] else [])
def Is.enc (i : Is) : List Int := if i.ok = true then i.code :: i.xs else []
theorem od_ok {o : Od} (h : o.ok = true) : (0 ≤ o.m ∧ o.m ≤ 7 ∧ 0 ≤ o.r ∧ o.r ≤ 7) ∧ 0 ≤ o.x ∧ o.x ≤ 65535 ∧ (o.hasX = true ∨ o.x = 0) := by
 unfold Od.ok inB at h
 simp only [Bool.and_eq_true, Bool.or_eq_true, decide_eq_true_eq, beq_iff_eq] at h
 obtain ⟨⟨⟨⟨h1, h2⟩, h3, h4⟩, h5, h6⟩, h7⟩ := h
 exact ⟨⟨h1, h2, h3, h4⟩, h5, h6, h7⟩
theorem is_ok {i : Is} (h : i.ok = true) : (1 ≤ i.op ∧ i.op ≤ 23) ∧ (i.op ≤ 6 → i.s.ok = true) ∧ (i.op ≤ 15 → i.d.ok = true) ∧ (6 < i.op → i.s.zero = true) ∧ (15 < i.op → i.d.zero = true) ∧ (-128 ≤ i.n ∧ i.n ≤ 255) ∧ ((i.op ≤ 14 ∨ i.op = 22) → i.n = 0) ∧ ((i.op = 15 ∨ i.op = 16) → 0 ≤ i.n ∧ i.n ≤ 7) ∧ (17 ≤ i.op ∧ i.op ≤ 21 → i.n ≤ 127) ∧ (i.op = 23 → 0 ≤ i.n) := by
 unfold Is.ok at h
 simp only [inB, Bool.and_eq_true, decide_eq_true_eq, beq_iff_eq, Bool.or_eq_true, Bool.not_eq_true'] at h
 split at h
 ·
  simp only [Bool.and_eq_true, beq_iff_eq] at h
  obtain ⟨⟨h1, h2⟩, h3⟩ := h
  refine ⟨by omega, fun _ => h1, fun _ => h2, fun _ => by omega, fun _ => by omega, by omega, fun _ => h3, fun _ => by omega, fun _ => by omega, fun _ => by omega⟩
 split at h
 ·
  simp only [Bool.and_eq_true, beq_iff_eq] at h
  obtain ⟨⟨h1, h2⟩, h3⟩ := h
  refine ⟨by omega, fun _ => by omega, fun _ => h2, fun _ => h1, fun _ => by omega, by omega, fun _ => h3, fun _ => by omega, fun _ => by omega, fun _ => by omega⟩
 split at h
 ·
  simp only [Bool.and_eq_true, decide_eq_true_eq] at h
  obtain ⟨⟨h1, h2⟩, h3⟩ := h
  refine ⟨by omega, fun _ => by omega, fun _ => h2, fun _ => h1, fun _ => by omega, by omega, fun _ => by omega, fun _ => by omega, fun _ => by omega, fun _ => by omega⟩
 split at h
 · cases h
 rename_i hz
 have hs : i.s.zero = true := by cases e : i.s.zero <;> simp_all
 have hd : i.d.zero = true := by cases e : i.d.zero <;> simp_all
 clear hz
 split at h
 ·
  simp only [Bool.and_eq_true, decide_eq_true_eq] at h
  refine ⟨by omega, fun _ => by omega, fun _ => by omega, fun _ => hs, fun _ => hd, by omega, fun _ => by omega, fun _ => by omega, fun _ => by omega, fun _ => by omega⟩
 split at h
 ·
  simp only [Bool.and_eq_true, decide_eq_true_eq] at h
  refine ⟨by omega, fun _ => by omega, fun _ => by omega, fun _ => hs, fun _ => hd, by omega, fun _ => by omega, fun _ => by omega, fun _ => by omega, fun _ => by omega⟩
 split at h
 ·
  simp only [beq_iff_eq] at h
  refine ⟨by omega, fun _ => by omega, fun _ => by omega, fun _ => hs, fun _ => hd, by omega, fun _ => by omega, fun _ => by omega, fun _ => by omega, fun _ => by omega⟩
 split at h
 ·
  simp only [Bool.and_eq_true, decide_eq_true_eq] at h
  refine ⟨by omega, fun _ => by omega, fun _ => by omega, fun _ => hs, fun _ => hd, by omega, fun _ => by omega, fun _ => by omega, fun _ => by omega, fun _ => by omega⟩
 · cases h
theorem alloc_cell {w : World} {p : Addr} {v : Value} (h : w.cell? p = some v) (o : Obj) : (w.alloc o).cell? p = some v :=
 ((Below.refl w.heap.size w).alloc (Nat.le_refl _) o).cell (World.block_lt_of_cell? w _ h) |>.trans h
theorem box_step {B : Nat} {W w1 w2 : World} (h : Below B W w1) (hz : W.heap.size = B) (hb : Below w1.heap.size w1 w2) : Below B W w2 := h.trans (hb.mono (by have := h.size; omega))
theorem box_stepd {B : Nat} {W w1 w2 : World} (h : Below B W w1) (hz : W.heap.size = B) (hb : Below w1.drew.heap.size w1.drew w2) : Below B W w2 := box_step h hz ⟨hb.os, hb.tape, hb.output, hb.size, hb.block⟩
theorem box_app {B C : Nat} {W w3 w4 : World} {v : Value} {ns : List Int} (h : Below B W w3) (hz : W.heap.size = B) (o : Obj) (hg : (w3.alloc o).grownBy w4 v.ownBlock) (ho : OwnN w3 C v ns) (hC : B ≤ C) : Below B W w4 :=
 (h.alloc (by have := h.size; omega) o).grown hg (by have := h.size; simp; omega) (fun k e => Nat.le_trans hC (ho.lt e).1)
theorem own_one (w : World) (x : Int) : OwnN (w.alloc (.cells #[.int .i64 x] 3)) w.heap.size (.slice (some ⟨w.heap.size, 0, none⟩) 1 1) [x] :=
 ⟨rfl, .inr ⟨w.heap.size, 1, _, rfl, Nat.le_refl _, Array.getElem?_push_size, Nat.le_refl _, by unfold maxLen; omega, rfl, rfl⟩⟩
end Go.Proofs.YtjpbjbnialehbaaGreatDoor
