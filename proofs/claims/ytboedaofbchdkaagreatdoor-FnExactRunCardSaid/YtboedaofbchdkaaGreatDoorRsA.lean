/- Contracts over this seat's translation, laid together; conditions stand as hypotheses of each. -/
import Derived.Deep.RegionHeld
import Derived.Deep.WholeRow
import Derived.Deep.RegionWith
import Derived.Laws.CopyOwn
import Derived.Deep.DeepMust
import Derived.WalkKit
import Derived.ProofKit
import Derived.OpenShut
import Derived.ShutString
import Derived.ChangeOld
import Derived.Below
import Derived.Deep.OwnRows
import Derived.WalkSpells
import Derived.Laws.AppendOwnNone
import Derived.Laws.OwnMore
import Derived.BigQuiet
import Derived.Laws.BitsLemmas
import Derived.WalkLawsBesides
import Derived.Laws.ResultCell
import Derived.Laws.Rows
import Derived.Test.YtboedaofbchdkaaGreatDoorProg
import GoSem.Claim
import Derived.JoinedTies
import Derived.KernelRfl
namespace Go.Proofs.YtboedaofbchdkaaGreatDoor
open Go.ChangeShapes Go.WideShapes Go.ChangeAt Go.RowKit
set_option maxHeartbeats 16000000
section
variable {P : Program} {ops : Array Oper} {Q : Exit → Act → World → Prop} {md : Region.Mode} {S : World → Prop} {oi : Oper} {fuel : Nat} {listed : Array Bool} {a : Act} {w : World}
theorem tkA (i : Nat) (v : Value) (hi : ops[i]? = some oi) (hy : YieldsIf P ops S oi v a) (hS : S w) (h : wpAnyH P md ops Q S fuel (listed.setIfInBounds i true) (a.put oi.dst v) w) (hs : Region.noSelect ops = true := by kernel_rfl) (hf : Region.free md ops listed i = true := by kernel_rfl) (hr : (Region.ready md ops listed).contains i = true := by kernel_rfl) (hQ : ∀ c a w, Q (.panic c) (a.put oi.dst v) w → Q (.panic c) a w := by exact fun _ _ _ h => h) : wpAnyH P md ops Q S (fuel + 1) listed a w := wpAnyH_take hi hs hf hr hQ hy hS h
theorem tkB (i : Nat) (v : Value) (hi : ops[i]? = some oi) (hS : S w) (h : wpAnyH P md ops Q S fuel (listed.setIfInBounds i true) (a.put oi.dst v) w) (hs : Region.noSelect ops = true := by kernel_rfl) (hf : Region.free md ops listed i = true := by kernel_rfl) (hr : (Region.ready md ops listed).contains i = true := by kernel_rfl) (hQ : ∀ c a w, Q (.panic c) (a.put oi.dst v) w → Q (.panic c) a w := by exact fun _ _ _ h => h) (hy : YieldsIf P ops S oi v a := by exact .inl ⟨by rfl, fun w hc => by clear hc; go_simp⟩) : wpAnyH P md ops Q S (fuel + 1) listed a w := wpAnyH_take hi hs hf hr hQ hy hS h
end
set_option linter.unusedVariables false
set_option maxRecDepth 8000
theorem hide {p : Prop} (h : p) : Hid p := h
theorem uh {p : Prop} (h : Hid p) : p := h
structure Od where
 m : Int
 r : Int
 x : Int
structure Is where
 op : Int
 s : Od
 d : Od
 n : Int
def Od.v (o : Od) : Value := .agg #[.int .i64 o.m, .int .i64 o.r, .int .i64 o.x]
def Is.v (i : Is) : Value := .agg #[.int .i64 i.op, .int .i64 i.s.m, .int .i64 i.s.r, .int .i64 i.s.x, .int .i64 i.d.m, .int .i64 i.d.r, .int .i64 i.d.x, .int .i64 i.n]
def inB (x a b : Int) : Bool := decide (a ≤ x) && decide (x ≤ b)
def Od.hasX (o : Od) : Bool := (o.m == 6 || o.m == 7) || (o.r == 7 && (o.m == 2 || o.m == 3))
def Od.ok (o : Od) : Bool := ((inB o.m 0 7 && inB o.r 0 7) && inB o.x 0 65535) && (o.hasX || o.x == 0)
def Od.zero (o : Od) : Bool := o.m == 0 && (o.r == 0 && o.x == 0)
def Is.ok (i : Is) : Bool :=
 if inB i.op 1 6 = true then (i.s.ok && i.d.ok) && i.n == 0
 else if inB i.op 7 14 = true then (i.s.zero && i.d.ok) && i.n == 0
 else if i.op == 15 then (i.s.zero && i.d.ok) && inB i.n 0 7
 else if (!i.s.zero || !i.d.zero) = true then false
 else if i.op == 16 then inB i.n 0 7
 else if inB i.op 17 21 = true then inB i.n (-128) 127
 else if i.op == 22 then i.n == 0
 else if i.op == 23 then inB i.n 0 255
 else false
def Is.words (i : Is) : Int := 1 + (if (inB i.op 1 6 && i.s.hasX) = true then 1 else 0) + (if (inB i.op 1 15 && i.d.hasX) = true then 1 else 0)
theorem in_any (x a b : Int) (w : World) : Calls Tryz.prog 13 #[.int .i64 x, .int .i64 a, .int .i64 b] w fun e w' => e = .returned (.bool (inB x a b)) ∧ w' = w := by
 unfold inB
 by_cases h1 : a ≤ x
 ·
  rw [decide_eq_true h1, Bool.true_and]
  go_enter Tryz.func13, Tryz.ntmps13
  go_wp2
  go_ret
  exact ⟨rfl, rfl⟩
 ·
  rw [decide_eq_false h1, Bool.false_and]
  have h3 : decide (a ≤ x) = false := decide_eq_false h1
  go_enter Tryz.func13, Tryz.ntmps13
  go_wp2
  go_ret
  exact ⟨rfl, rfl⟩
theorem hasX_any (o : Od) (w : World) : Calls Tryz.prog 29 #[o.v] w fun e w' => e = .returned (.bool o.hasX) ∧ Below w.heap.size w w' := by
 obtain ⟨m, r, x⟩ := o
 unfold Od.hasX Od.v
 simp only
 have hB := hide ((Below.refl w.heap.size w).alloc (Nat.le_refl _) (Obj.cells #[.int .i64 m, .int .i64 r, .int .i64 x] 46))
 cases h6 : (m == 6)
 ·
  cases h7 : (m == 7)
  ·
   cases h8 : (r == 7)
   ·
    go_enter Tryz.func29, Tryz.ntmps29
    go_wp2
    go_ret
    exact ⟨rfl, uh hB⟩
   ·
    cases h2 : (m == 2)
    ·
     go_enter Tryz.func29, Tryz.ntmps29
     go_wp2
     go_ret
     exact ⟨rfl, uh hB⟩
    ·
     go_enter Tryz.func29, Tryz.ntmps29
     go_wp2
     go_ret
     exact ⟨rfl, uh hB⟩
  ·
   go_enter Tryz.func29, Tryz.ntmps29
   go_wp2
   go_ret
   exact ⟨rfl, uh hB⟩
 ·
  go_enter Tryz.func29, Tryz.ntmps29
  go_wp2
  go_ret
  exact ⟨rfl, uh hB⟩
theorem opdOk_any (o : Od) (w : World) : Calls Tryz.prog 47 #[o.v] w fun e w' => e = .returned (.bool o.ok) ∧ Below w.heap.size w w' := by
 have HX := hide (fun w => hasX_any o w)
 obtain ⟨m, r, x⟩ := o
 unfold Od.ok
 obtain ⟨q, hq⟩ : ∃ q, Od.hasX ⟨m, r, x⟩ = q := ⟨_, rfl⟩
 rw [hq] at HX ⊢
 clear hq
 unfold Od.v at HX ⊢
 simp only at HX ⊢
 have hB := hide ((Below.refl w.heap.size w).alloc (Nat.le_refl _) (Obj.cells #[.int .i64 m, .int .i64 r, .int .i64 x] 46))
 cases h1 : inB m 0 7
 ·
  go_enter Tryz.func47, Tryz.ntmps47
  go_wp2_with (go_at_call 13; refine (in_any _ _ _ _).mono ?_; rintro e w' ⟨rfl, hw'⟩; rw [hw']; clear hw' w')
  go_ret
  exact ⟨rfl, uh hB⟩
 ·
  cases h2 : inB r 0 7
  ·
   go_enter Tryz.func47, Tryz.ntmps47
   go_wp2_with (go_at_call 13; refine (in_any _ _ _ _).mono ?_; rintro e w' ⟨rfl, hw'⟩; rw [hw']; clear hw' w')
   go_ret
   exact ⟨rfl, uh hB⟩
  ·
   cases h3 : inB x 0 65535
   ·
    go_enter Tryz.func47, Tryz.ntmps47
    go_wp2_with (go_at_call 13; refine (in_any _ _ _ _).mono ?_; rintro e w' ⟨rfl, hw'⟩; rw [hw']; clear hw' w')
    go_ret
    exact ⟨rfl, uh hB⟩
   ·
    have hz : (w.alloc (Obj.cells #[.int .i64 m, .int .i64 r, .int .i64 x] 46)).heap.size = w.heap.size + 1 := by simp
    have hcl : ∀ w', Below (w.heap.size + 1) (w.alloc (Obj.cells #[.int .i64 m, .int .i64 r, .int .i64 x] 46)) w' → w'.cell? ⟨w.heap.size, 2, none⟩ = some (.int .i64 x) := fun w' hb => (hb.cell (p := ⟨w.heap.size, 2, none⟩) (by simp)).trans (by simp)
    have HZ := hide hz
    have HCL := hide hcl
    clear hz hcl
    go_enter Tryz.func47, Tryz.ntmps47
    go_wp2_with (go_at_call 13; refine (in_any _ _ _ _).mono ?_; rintro e w' ⟨rfl, hw'⟩; rw [hw']; clear hw' w')
    refine (uh HX _).mono ?_
    rintro e w2 ⟨rfl, hb2⟩
    rw [uh HZ] at hb2
    have hcx := uh HCL w2 hb2
    have B2 := hide ((uh hB).trans (hb2.mono (by omega)))
    clear hb2 HX
    cases q
    ·
     go_wp2
     go_ret
     exact ⟨rfl, uh B2⟩
    ·
     go_wp2
     go_ret
     exact ⟨rfl, uh B2⟩
theorem zero_any (o : Od) (w : World) : Calls Tryz.prog 48 #[o.v] w fun e w' => e = .returned (.bool o.zero) ∧ Below w.heap.size w w' := by
 obtain ⟨m, r, x⟩ := o
 unfold Od.zero Od.v
 simp only
 go_enter Tryz.func48, Tryz.ntmps48
 go_wp2
 all_goals go_ret
 all_goals refine ⟨?_, (Below.refl _ _).alloc (Nat.le_refl _) _⟩
 all_goals simp_all
set_option linter.unusedSimpArgs false
theorem box_cells (w : World) (cs : Array Value) (t : TypeId) : ∀ w', Below (w.heap.size + 1) (w.alloc (Obj.cells cs t)) w' → ∀ j v, cs[j]? = some v → w'.cell? ⟨w.heap.size, j, none⟩ = some v := fun w' hb j v hv =>
 (hb.cell (p := ⟨w.heap.size, j, none⟩) (by simp)).trans (by rw [World.cell?_alloc_at _ _ _ _ rfl]; exact hv)
theorem box_below (w : World) (o : Obj) : ∀ w', Below (w.heap.size + 1) (w.alloc o) w' → Below w.heap.size w w' := fun w' hb =>
 ((Below.refl _ _).alloc (Nat.le_refl _) _).trans (hb.mono (by omega))
theorem insOk_any (i : Is) (w : World) : Calls Tryz.prog 30 #[i.v] w fun e w' => e = .returned (.bool i.ok) ∧ Below w.heap.size w w' := by
 obtain ⟨op, ⟨sm, sr, sx⟩, ⟨dm, dr, dx⟩, n⟩ := i
 have HZ := hide (show (w.alloc (Obj.cells #[.int .i64 op, .int .i64 sm, .int .i64 sr, .int .i64 sx, .int .i64 dm, .int .i64 dr, .int .i64 dx, .int .i64 n] 48)).heap.size = w.heap.size + 1 by simp)
 have HCL := hide (box_cells w #[.int .i64 op, .int .i64 sm, .int .i64 sr, .int .i64 sx, .int .i64 dm, .int .i64 dr, .int .i64 dx, .int .i64 n] 48)
 have HB := hide (box_below w (Obj.cells #[.int .i64 op, .int .i64 sm, .int .i64 sr, .int .i64 sx, .int .i64 dm, .int .i64 dr, .int .i64 dx, .int .i64 n] 48))
 unfold Is.v
 simp only
 cases hA : inB op 1 6
 ·
  cases hB1 : inB op 7 14
  ·
   cases hC : (op == 15)
   ·
    cases hz1 : Od.zero ⟨sm, sr, sx⟩
    ·
     have HR := hide (show false = Is.ok ⟨op, ⟨sm, sr, sx⟩, ⟨dm, dr, dx⟩, n⟩ by simp [Is.ok, *])
     go_enter Tryz.func30, Tryz.ntmps30
     go_wp2_with (go_at_call 13; refine (in_any _ _ _ _).mono ?_; rintro e w' ⟨rfl, hw'⟩; rw [hw']; clear hw' w')
     refine (zero_any ⟨sm, sr, sx⟩ _).mono ?_
     rintro e w1 ⟨rfl, hb1⟩
     rw [uh HZ] at hb1
     have Bz1 := hb1
     have a0 := uh HCL w1 Bz1 0 _ rfl
     have a1 := uh HCL w1 Bz1 1 _ rfl
     have a2 := uh HCL w1 Bz1 2 _ rfl
     have a3 := uh HCL w1 Bz1 3 _ rfl
     have a4 := uh HCL w1 Bz1 4 _ rfl
     have a5 := uh HCL w1 Bz1 5 _ rfl
     have a6 := uh HCL w1 Bz1 6 _ rfl
     have a7 := uh HCL w1 Bz1 7 _ rfl
     rw [hz1]
     go_wp2_with (go_at_call 13; refine (in_any _ _ _ _).mono ?_; rintro e w' ⟨rfl, hw'⟩; rw [hw']; clear hw' w')
     go_ret
     exact ⟨by rw [← uh HR]; rfl, uh HB _ Bz1⟩
    ·
     cases hz2 : Od.zero ⟨dm, dr, dx⟩
     ·
      have HR := hide (show false = Is.ok ⟨op, ⟨sm, sr, sx⟩, ⟨dm, dr, dx⟩, n⟩ by simp [Is.ok, *])
      go_enter Tryz.func30, Tryz.ntmps30
      go_wp2_with (go_at_call 13; refine (in_any _ _ _ _).mono ?_; rintro e w' ⟨rfl, hw'⟩; rw [hw']; clear hw' w')
      refine (zero_any ⟨sm, sr, sx⟩ _).mono ?_
      rintro e w1 ⟨rfl, hb1⟩
      rw [uh HZ] at hb1
      have Bz1 := hb1
      have a0 := uh HCL w1 Bz1 0 _ rfl
      have a1 := uh HCL w1 Bz1 1 _ rfl
      have a2 := uh HCL w1 Bz1 2 _ rfl
      have a3 := uh HCL w1 Bz1 3 _ rfl
      have a4 := uh HCL w1 Bz1 4 _ rfl
      have a5 := uh HCL w1 Bz1 5 _ rfl
      have a6 := uh HCL w1 Bz1 6 _ rfl
      have a7 := uh HCL w1 Bz1 7 _ rfl
      rw [hz1]
      clear hb1
      go_wp2_with (go_at_call 13; refine (in_any _ _ _ _).mono ?_; rintro e w' ⟨rfl, hw'⟩; rw [hw']; clear hw' w')
      refine (zero_any ⟨dm, dr, dx⟩ _).mono ?_
      rintro e w2 ⟨rfl, hb2⟩
      have Bz2 := Bz1.trans (hb2.mono (by have := Bz1.size; rw [uh HZ] at this; exact this))
      have a0 := uh HCL w2 Bz2 0 _ rfl
      have a1 := uh HCL w2 Bz2 1 _ rfl
      have a2 := uh HCL w2 Bz2 2 _ rfl
      have a3 := uh HCL w2 Bz2 3 _ rfl
      have a4 := uh HCL w2 Bz2 4 _ rfl
      have a5 := uh HCL w2 Bz2 5 _ rfl
      have a6 := uh HCL w2 Bz2 6 _ rfl
      have a7 := uh HCL w2 Bz2 7 _ rfl
      rw [hz2]
      go_wp2_with (go_at_call 13; refine (in_any _ _ _ _).mono ?_; rintro e w' ⟨rfl, hw'⟩; rw [hw']; clear hw' w')
      go_ret
      exact ⟨by rw [← uh HR]; rfl, uh HB _ Bz2⟩
     ·
      cases h16 : (op == 16)
      ·
       cases h17 : inB op 17 21
       ·
        cases h22 : (op == 22)
        ·
         cases h23 : (op == 23)
         ·
          have HR := hide (show false = Is.ok ⟨op, ⟨sm, sr, sx⟩, ⟨dm, dr, dx⟩, n⟩ by simp [Is.ok, *])
          go_enter Tryz.func30, Tryz.ntmps30
          go_wp2_with (go_at_call 13; refine (in_any _ _ _ _).mono ?_; rintro e w' ⟨rfl, hw'⟩; rw [hw']; clear hw' w')
          refine (zero_any ⟨sm, sr, sx⟩ _).mono ?_
          rintro e w1 ⟨rfl, hb1⟩
          rw [uh HZ] at hb1
          have Bz1 := hb1
          have a0 := uh HCL w1 Bz1 0 _ rfl
          have a1 := uh HCL w1 Bz1 1 _ rfl
          have a2 := uh HCL w1 Bz1 2 _ rfl
          have a3 := uh HCL w1 Bz1 3 _ rfl
          have a4 := uh HCL w1 Bz1 4 _ rfl
          have a5 := uh HCL w1 Bz1 5 _ rfl
          have a6 := uh HCL w1 Bz1 6 _ rfl
          have a7 := uh HCL w1 Bz1 7 _ rfl
          rw [hz1]
          clear hb1
          go_wp2_with (go_at_call 13; refine (in_any _ _ _ _).mono ?_; rintro e w' ⟨rfl, hw'⟩; rw [hw']; clear hw' w')
          refine (zero_any ⟨dm, dr, dx⟩ _).mono ?_
          rintro e w2 ⟨rfl, hb2⟩
          have Bz2 := Bz1.trans (hb2.mono (by have := Bz1.size; rw [uh HZ] at this; exact this))
          have a0 := uh HCL w2 Bz2 0 _ rfl
          have a1 := uh HCL w2 Bz2 1 _ rfl
          have a2 := uh HCL w2 Bz2 2 _ rfl
          have a3 := uh HCL w2 Bz2 3 _ rfl
          have a4 := uh HCL w2 Bz2 4 _ rfl
          have a5 := uh HCL w2 Bz2 5 _ rfl
          have a6 := uh HCL w2 Bz2 6 _ rfl
          have a7 := uh HCL w2 Bz2 7 _ rfl
          rw [hz2]
          go_wp2_with (go_at_call 13; refine (in_any _ _ _ _).mono ?_; rintro e w' ⟨rfl, hw'⟩; rw [hw']; clear hw' w')
          go_ret
          exact ⟨by rw [← uh HR]; rfl, uh HB _ Bz2⟩
         ·
          have HR := hide (show inB n 0 255 = Is.ok ⟨op, ⟨sm, sr, sx⟩, ⟨dm, dr, dx⟩, n⟩ by simp [Is.ok, *])
          go_enter Tryz.func30, Tryz.ntmps30
          go_wp2_with (go_at_call 13; refine (in_any _ _ _ _).mono ?_; rintro e w' ⟨rfl, hw'⟩; rw [hw']; clear hw' w')
          refine (zero_any ⟨sm, sr, sx⟩ _).mono ?_
          rintro e w1 ⟨rfl, hb1⟩
          rw [uh HZ] at hb1
          have Bz1 := hb1
          have a0 := uh HCL w1 Bz1 0 _ rfl
          have a1 := uh HCL w1 Bz1 1 _ rfl
          have a2 := uh HCL w1 Bz1 2 _ rfl
          have a3 := uh HCL w1 Bz1 3 _ rfl
          have a4 := uh HCL w1 Bz1 4 _ rfl
          have a5 := uh HCL w1 Bz1 5 _ rfl
          have a6 := uh HCL w1 Bz1 6 _ rfl
          have a7 := uh HCL w1 Bz1 7 _ rfl
          rw [hz1]
          clear hb1
          go_wp2_with (go_at_call 13; refine (in_any _ _ _ _).mono ?_; rintro e w' ⟨rfl, hw'⟩; rw [hw']; clear hw' w')
          refine (zero_any ⟨dm, dr, dx⟩ _).mono ?_
          rintro e w2 ⟨rfl, hb2⟩
          have Bz2 := Bz1.trans (hb2.mono (by have := Bz1.size; rw [uh HZ] at this; exact this))
          have a0 := uh HCL w2 Bz2 0 _ rfl
          have a1 := uh HCL w2 Bz2 1 _ rfl
          have a2 := uh HCL w2 Bz2 2 _ rfl
          have a3 := uh HCL w2 Bz2 3 _ rfl
          have a4 := uh HCL w2 Bz2 4 _ rfl
          have a5 := uh HCL w2 Bz2 5 _ rfl
          have a6 := uh HCL w2 Bz2 6 _ rfl
          have a7 := uh HCL w2 Bz2 7 _ rfl
          rw [hz2]
          go_wp2_with (go_at_call 13; refine (in_any _ _ _ _).mono ?_; rintro e w' ⟨rfl, hw'⟩; rw [hw']; clear hw' w')
          go_ret
          exact ⟨by rw [← uh HR]; rfl, uh HB _ Bz2⟩
        ·
         have HR := hide (show (n == 0) = Is.ok ⟨op, ⟨sm, sr, sx⟩, ⟨dm, dr, dx⟩, n⟩ by simp [Is.ok, *])
         go_enter Tryz.func30, Tryz.ntmps30
         go_wp2_with (go_at_call 13; refine (in_any _ _ _ _).mono ?_; rintro e w' ⟨rfl, hw'⟩; rw [hw']; clear hw' w')
         refine (zero_any ⟨sm, sr, sx⟩ _).mono ?_
         rintro e w1 ⟨rfl, hb1⟩
         rw [uh HZ] at hb1
         have Bz1 := hb1
         have a0 := uh HCL w1 Bz1 0 _ rfl
         have a1 := uh HCL w1 Bz1 1 _ rfl
         have a2 := uh HCL w1 Bz1 2 _ rfl
         have a3 := uh HCL w1 Bz1 3 _ rfl
         have a4 := uh HCL w1 Bz1 4 _ rfl
         have a5 := uh HCL w1 Bz1 5 _ rfl
         have a6 := uh HCL w1 Bz1 6 _ rfl
         have a7 := uh HCL w1 Bz1 7 _ rfl
         rw [hz1]
         clear hb1
         go_wp2_with (go_at_call 13; refine (in_any _ _ _ _).mono ?_; rintro e w' ⟨rfl, hw'⟩; rw [hw']; clear hw' w')
         refine (zero_any ⟨dm, dr, dx⟩ _).mono ?_
         rintro e w2 ⟨rfl, hb2⟩
         have Bz2 := Bz1.trans (hb2.mono (by have := Bz1.size; rw [uh HZ] at this; exact this))
         have a0 := uh HCL w2 Bz2 0 _ rfl
         have a1 := uh HCL w2 Bz2 1 _ rfl
         have a2 := uh HCL w2 Bz2 2 _ rfl
         have a3 := uh HCL w2 Bz2 3 _ rfl
         have a4 := uh HCL w2 Bz2 4 _ rfl
         have a5 := uh HCL w2 Bz2 5 _ rfl
         have a6 := uh HCL w2 Bz2 6 _ rfl
         have a7 := uh HCL w2 Bz2 7 _ rfl
         rw [hz2]
         go_wp2_with (go_at_call 13; refine (in_any _ _ _ _).mono ?_; rintro e w' ⟨rfl, hw'⟩; rw [hw']; clear hw' w')
         go_ret
         exact ⟨by rw [← uh HR]; rfl, uh HB _ Bz2⟩
       ·
        have HR := hide (show inB n (-128) 127 = Is.ok ⟨op, ⟨sm, sr, sx⟩, ⟨dm, dr, dx⟩, n⟩ by simp [Is.ok, *])
        go_enter Tryz.func30, Tryz.ntmps30
        go_wp2_with (go_at_call 13; refine (in_any _ _ _ _).mono ?_; rintro e w' ⟨rfl, hw'⟩; rw [hw']; clear hw' w')
        refine (zero_any ⟨sm, sr, sx⟩ _).mono ?_
        rintro e w1 ⟨rfl, hb1⟩
        rw [uh HZ] at hb1
        have Bz1 := hb1
        have a0 := uh HCL w1 Bz1 0 _ rfl
        have a1 := uh HCL w1 Bz1 1 _ rfl
        have a2 := uh HCL w1 Bz1 2 _ rfl
        have a3 := uh HCL w1 Bz1 3 _ rfl
        have a4 := uh HCL w1 Bz1 4 _ rfl
        have a5 := uh HCL w1 Bz1 5 _ rfl
        have a6 := uh HCL w1 Bz1 6 _ rfl
        have a7 := uh HCL w1 Bz1 7 _ rfl
        rw [hz1]
        clear hb1
        go_wp2_with (go_at_call 13; refine (in_any _ _ _ _).mono ?_; rintro e w' ⟨rfl, hw'⟩; rw [hw']; clear hw' w')
        refine (zero_any ⟨dm, dr, dx⟩ _).mono ?_
        rintro e w2 ⟨rfl, hb2⟩
        have Bz2 := Bz1.trans (hb2.mono (by have := Bz1.size; rw [uh HZ] at this; exact this))
        have a0 := uh HCL w2 Bz2 0 _ rfl
        have a1 := uh HCL w2 Bz2 1 _ rfl
        have a2 := uh HCL w2 Bz2 2 _ rfl
        have a3 := uh HCL w2 Bz2 3 _ rfl
        have a4 := uh HCL w2 Bz2 4 _ rfl
        have a5 := uh HCL w2 Bz2 5 _ rfl
        have a6 := uh HCL w2 Bz2 6 _ rfl
        have a7 := uh HCL w2 Bz2 7 _ rfl
        rw [hz2]
        go_wp2_with (go_at_call 13; refine (in_any _ _ _ _).mono ?_; rintro e w' ⟨rfl, hw'⟩; rw [hw']; clear hw' w')
        go_ret
        exact ⟨by rw [← uh HR]; rfl, uh HB _ Bz2⟩
      ·
       have HR := hide (show inB n 0 7 = Is.ok ⟨op, ⟨sm, sr, sx⟩, ⟨dm, dr, dx⟩, n⟩ by simp [Is.ok, *])
       go_enter Tryz.func30, Tryz.ntmps30
       go_wp2_with (go_at_call 13; refine (in_any _ _ _ _).mono ?_; rintro e w' ⟨rfl, hw'⟩; rw [hw']; clear hw' w')
       refine (zero_any ⟨sm, sr, sx⟩ _).mono ?_
       rintro e w1 ⟨rfl, hb1⟩
       rw [uh HZ] at hb1
       have Bz1 := hb1
       have a0 := uh HCL w1 Bz1 0 _ rfl
       have a1 := uh HCL w1 Bz1 1 _ rfl
       have a2 := uh HCL w1 Bz1 2 _ rfl
       have a3 := uh HCL w1 Bz1 3 _ rfl
       have a4 := uh HCL w1 Bz1 4 _ rfl
       have a5 := uh HCL w1 Bz1 5 _ rfl
       have a6 := uh HCL w1 Bz1 6 _ rfl
       have a7 := uh HCL w1 Bz1 7 _ rfl
       rw [hz1]
       clear hb1
       go_wp2_with (go_at_call 13; refine (in_any _ _ _ _).mono ?_; rintro e w' ⟨rfl, hw'⟩; rw [hw']; clear hw' w')
       refine (zero_any ⟨dm, dr, dx⟩ _).mono ?_
       rintro e w2 ⟨rfl, hb2⟩
       have Bz2 := Bz1.trans (hb2.mono (by have := Bz1.size; rw [uh HZ] at this; exact this))
       have a0 := uh HCL w2 Bz2 0 _ rfl
       have a1 := uh HCL w2 Bz2 1 _ rfl
       have a2 := uh HCL w2 Bz2 2 _ rfl
       have a3 := uh HCL w2 Bz2 3 _ rfl
       have a4 := uh HCL w2 Bz2 4 _ rfl
       have a5 := uh HCL w2 Bz2 5 _ rfl
       have a6 := uh HCL w2 Bz2 6 _ rfl
       have a7 := uh HCL w2 Bz2 7 _ rfl
       rw [hz2]
       go_wp2_with (go_at_call 13; refine (in_any _ _ _ _).mono ?_; rintro e w' ⟨rfl, hw'⟩; rw [hw']; clear hw' w')
       go_ret
       exact ⟨by rw [← uh HR]; rfl, uh HB _ Bz2⟩
   ·
    cases hs : Od.zero ⟨sm, sr, sx⟩
    ·
     have HR := hide (show false = Is.ok ⟨op, ⟨sm, sr, sx⟩, ⟨dm, dr, dx⟩, n⟩ by simp [Is.ok, *])
     go_enter Tryz.func30, Tryz.ntmps30
     go_wp2_with (go_at_call 13; refine (in_any _ _ _ _).mono ?_; rintro e w' ⟨rfl, hw'⟩; rw [hw']; clear hw' w')
     refine (zero_any ⟨sm, sr, sx⟩ _).mono ?_
     rintro e w1 ⟨rfl, hb1⟩
     rw [uh HZ] at hb1
     have Bz1 := hb1
     have a0 := uh HCL w1 Bz1 0 _ rfl
     have a1 := uh HCL w1 Bz1 1 _ rfl
     have a2 := uh HCL w1 Bz1 2 _ rfl
     have a3 := uh HCL w1 Bz1 3 _ rfl
     have a4 := uh HCL w1 Bz1 4 _ rfl
     have a5 := uh HCL w1 Bz1 5 _ rfl
     have a6 := uh HCL w1 Bz1 6 _ rfl
     have a7 := uh HCL w1 Bz1 7 _ rfl
     rw [hs]
     go_wp2_with (go_at_call 13; refine (in_any _ _ _ _).mono ?_; rintro e w' ⟨rfl, hw'⟩; rw [hw']; clear hw' w')
     go_ret
     exact ⟨by rw [← uh HR]; rfl, uh HB _ Bz1⟩
    ·
     cases hd : Od.ok ⟨dm, dr, dx⟩
     ·
      have HR := hide (show false = Is.ok ⟨op, ⟨sm, sr, sx⟩, ⟨dm, dr, dx⟩, n⟩ by simp [Is.ok, *])
      go_enter Tryz.func30, Tryz.ntmps30
      go_wp2_with (go_at_call 13; refine (in_any _ _ _ _).mono ?_; rintro e w' ⟨rfl, hw'⟩; rw [hw']; clear hw' w')
      refine (zero_any ⟨sm, sr, sx⟩ _).mono ?_
      rintro e w1 ⟨rfl, hb1⟩
      rw [uh HZ] at hb1
      have Bz1 := hb1
      have a0 := uh HCL w1 Bz1 0 _ rfl
      have a1 := uh HCL w1 Bz1 1 _ rfl
      have a2 := uh HCL w1 Bz1 2 _ rfl
      have a3 := uh HCL w1 Bz1 3 _ rfl
      have a4 := uh HCL w1 Bz1 4 _ rfl
      have a5 := uh HCL w1 Bz1 5 _ rfl
      have a6 := uh HCL w1 Bz1 6 _ rfl
      have a7 := uh HCL w1 Bz1 7 _ rfl
      rw [hs]
      clear hb1
      go_wp2_with (go_at_call 13; refine (in_any _ _ _ _).mono ?_; rintro e w' ⟨rfl, hw'⟩; rw [hw']; clear hw' w')
      refine (opdOk_any ⟨dm, dr, dx⟩ _).mono ?_
      rintro e w2 ⟨rfl, hb2⟩
      have Bz2 := Bz1.trans (hb2.mono (by have := Bz1.size; rw [uh HZ] at this; exact this))
      have a0 := uh HCL w2 Bz2 0 _ rfl
      have a1 := uh HCL w2 Bz2 1 _ rfl
      have a2 := uh HCL w2 Bz2 2 _ rfl
      have a3 := uh HCL w2 Bz2 3 _ rfl
      have a4 := uh HCL w2 Bz2 4 _ rfl
      have a5 := uh HCL w2 Bz2 5 _ rfl
      have a6 := uh HCL w2 Bz2 6 _ rfl
      have a7 := uh HCL w2 Bz2 7 _ rfl
      rw [hd]
      go_wp2_with (go_at_call 13; refine (in_any _ _ _ _).mono ?_; rintro e w' ⟨rfl, hw'⟩; rw [hw']; clear hw' w')
      go_ret
      exact ⟨by rw [← uh HR]; rfl, uh HB _ Bz2⟩
     ·
      have HR := hide (show inB n 0 7 = Is.ok ⟨op, ⟨sm, sr, sx⟩, ⟨dm, dr, dx⟩, n⟩ by simp [Is.ok, *])
      go_enter Tryz.func30, Tryz.ntmps30
      go_wp2_with (go_at_call 13; refine (in_any _ _ _ _).mono ?_; rintro e w' ⟨rfl, hw'⟩; rw [hw']; clear hw' w')
      refine (zero_any ⟨sm, sr, sx⟩ _).mono ?_
      rintro e w1 ⟨rfl, hb1⟩
      rw [uh HZ] at hb1
      have Bz1 := hb1
      have a0 := uh HCL w1 Bz1 0 _ rfl
      have a1 := uh HCL w1 Bz1 1 _ rfl
      have a2 := uh HCL w1 Bz1 2 _ rfl
      have a3 := uh HCL w1 Bz1 3 _ rfl
      have a4 := uh HCL w1 Bz1 4 _ rfl
      have a5 := uh HCL w1 Bz1 5 _ rfl
      have a6 := uh HCL w1 Bz1 6 _ rfl
      have a7 := uh HCL w1 Bz1 7 _ rfl
      rw [hs]
      clear hb1
      go_wp2_with (go_at_call 13; refine (in_any _ _ _ _).mono ?_; rintro e w' ⟨rfl, hw'⟩; rw [hw']; clear hw' w')
      refine (opdOk_any ⟨dm, dr, dx⟩ _).mono ?_
      rintro e w2 ⟨rfl, hb2⟩
      have Bz2 := Bz1.trans (hb2.mono (by have := Bz1.size; rw [uh HZ] at this; exact this))
      have a0 := uh HCL w2 Bz2 0 _ rfl
      have a1 := uh HCL w2 Bz2 1 _ rfl
      have a2 := uh HCL w2 Bz2 2 _ rfl
      have a3 := uh HCL w2 Bz2 3 _ rfl
      have a4 := uh HCL w2 Bz2 4 _ rfl
      have a5 := uh HCL w2 Bz2 5 _ rfl
      have a6 := uh HCL w2 Bz2 6 _ rfl
      have a7 := uh HCL w2 Bz2 7 _ rfl
      rw [hd]
      go_wp2_with (go_at_call 13; refine (in_any _ _ _ _).mono ?_; rintro e w' ⟨rfl, hw'⟩; rw [hw']; clear hw' w')
      go_ret
      exact ⟨by rw [← uh HR]; rfl, uh HB _ Bz2⟩
  ·
   cases hs : Od.zero ⟨sm, sr, sx⟩
   ·
    have HR := hide (show false = Is.ok ⟨op, ⟨sm, sr, sx⟩, ⟨dm, dr, dx⟩, n⟩ by simp [Is.ok, *])
    go_enter Tryz.func30, Tryz.ntmps30
    go_wp2_with (go_at_call 13; refine (in_any _ _ _ _).mono ?_; rintro e w' ⟨rfl, hw'⟩; rw [hw']; clear hw' w')
    refine (zero_any ⟨sm, sr, sx⟩ _).mono ?_
    rintro e w1 ⟨rfl, hb1⟩
    rw [uh HZ] at hb1
    have Bz1 := hb1
    have a0 := uh HCL w1 Bz1 0 _ rfl
    have a1 := uh HCL w1 Bz1 1 _ rfl
    have a2 := uh HCL w1 Bz1 2 _ rfl
    have a3 := uh HCL w1 Bz1 3 _ rfl
    have a4 := uh HCL w1 Bz1 4 _ rfl
    have a5 := uh HCL w1 Bz1 5 _ rfl
    have a6 := uh HCL w1 Bz1 6 _ rfl
    have a7 := uh HCL w1 Bz1 7 _ rfl
    rw [hs]
    go_wp2_with (go_at_call 13; refine (in_any _ _ _ _).mono ?_; rintro e w' ⟨rfl, hw'⟩; rw [hw']; clear hw' w')
    go_ret
    exact ⟨by rw [← uh HR]; rfl, uh HB _ Bz1⟩
   ·
    cases hd : Od.ok ⟨dm, dr, dx⟩
    ·
     have HR := hide (show false = Is.ok ⟨op, ⟨sm, sr, sx⟩, ⟨dm, dr, dx⟩, n⟩ by simp [Is.ok, *])
     go_enter Tryz.func30, Tryz.ntmps30
     go_wp2_with (go_at_call 13; refine (in_any _ _ _ _).mono ?_; rintro e w' ⟨rfl, hw'⟩; rw [hw']; clear hw' w')
     refine (zero_any ⟨sm, sr, sx⟩ _).mono ?_
     rintro e w1 ⟨rfl, hb1⟩
     rw [uh HZ] at hb1
     have Bz1 := hb1
     have a0 := uh HCL w1 Bz1 0 _ rfl
     have a1 := uh HCL w1 Bz1 1 _ rfl
     have a2 := uh HCL w1 Bz1 2 _ rfl
     have a3 := uh HCL w1 Bz1 3 _ rfl
     have a4 := uh HCL w1 Bz1 4 _ rfl
     have a5 := uh HCL w1 Bz1 5 _ rfl
     have a6 := uh HCL w1 Bz1 6 _ rfl
     have a7 := uh HCL w1 Bz1 7 _ rfl
     rw [hs]
     clear hb1
     go_wp2_with (go_at_call 13; refine (in_any _ _ _ _).mono ?_; rintro e w' ⟨rfl, hw'⟩; rw [hw']; clear hw' w')
     refine (opdOk_any ⟨dm, dr, dx⟩ _).mono ?_
     rintro e w2 ⟨rfl, hb2⟩
     have Bz2 := Bz1.trans (hb2.mono (by have := Bz1.size; rw [uh HZ] at this; exact this))
     have a0 := uh HCL w2 Bz2 0 _ rfl
     have a1 := uh HCL w2 Bz2 1 _ rfl
     have a2 := uh HCL w2 Bz2 2 _ rfl
     have a3 := uh HCL w2 Bz2 3 _ rfl
     have a4 := uh HCL w2 Bz2 4 _ rfl
     have a5 := uh HCL w2 Bz2 5 _ rfl
     have a6 := uh HCL w2 Bz2 6 _ rfl
     have a7 := uh HCL w2 Bz2 7 _ rfl
     rw [hd]
     go_wp2_with (go_at_call 13; refine (in_any _ _ _ _).mono ?_; rintro e w' ⟨rfl, hw'⟩; rw [hw']; clear hw' w')
     go_ret
     exact ⟨by rw [← uh HR]; rfl, uh HB _ Bz2⟩
    ·
     have HR := hide (show (n == 0) = Is.ok ⟨op, ⟨sm, sr, sx⟩, ⟨dm, dr, dx⟩, n⟩ by simp [Is.ok, *])
     go_enter Tryz.func30, Tryz.ntmps30
     go_wp2_with (go_at_call 13; refine (in_any _ _ _ _).mono ?_; rintro e w' ⟨rfl, hw'⟩; rw [hw']; clear hw' w')
     refine (zero_any ⟨sm, sr, sx⟩ _).mono ?_
     rintro e w1 ⟨rfl, hb1⟩
     rw [uh HZ] at hb1
     have Bz1 := hb1
     have a0 := uh HCL w1 Bz1 0 _ rfl
     have a1 := uh HCL w1 Bz1 1 _ rfl
     have a2 := uh HCL w1 Bz1 2 _ rfl
     have a3 := uh HCL w1 Bz1 3 _ rfl
     have a4 := uh HCL w1 Bz1 4 _ rfl
     have a5 := uh HCL w1 Bz1 5 _ rfl
     have a6 := uh HCL w1 Bz1 6 _ rfl
     have a7 := uh HCL w1 Bz1 7 _ rfl
     rw [hs]
     clear hb1
     go_wp2_with (go_at_call 13; refine (in_any _ _ _ _).mono ?_; rintro e w' ⟨rfl, hw'⟩; rw [hw']; clear hw' w')
     refine (opdOk_any ⟨dm, dr, dx⟩ _).mono ?_
     rintro e w2 ⟨rfl, hb2⟩
     have Bz2 := Bz1.trans (hb2.mono (by have := Bz1.size; rw [uh HZ] at this; exact this))
     have a0 := uh HCL w2 Bz2 0 _ rfl
     have a1 := uh HCL w2 Bz2 1 _ rfl
     have a2 := uh HCL w2 Bz2 2 _ rfl
     have a3 := uh HCL w2 Bz2 3 _ rfl
     have a4 := uh HCL w2 Bz2 4 _ rfl
     have a5 := uh HCL w2 Bz2 5 _ rfl
     have a6 := uh HCL w2 Bz2 6 _ rfl
     have a7 := uh HCL w2 Bz2 7 _ rfl
     rw [hd]
     go_wp2_with (go_at_call 13; refine (in_any _ _ _ _).mono ?_; rintro e w' ⟨rfl, hw'⟩; rw [hw']; clear hw' w')
     go_ret
     exact ⟨by rw [← uh HR]; rfl, uh HB _ Bz2⟩
 ·
  cases hs : Od.ok ⟨sm, sr, sx⟩
  ·
   have HR := hide (show false = Is.ok ⟨op, ⟨sm, sr, sx⟩, ⟨dm, dr, dx⟩, n⟩ by simp [Is.ok, *])
   go_enter Tryz.func30, Tryz.ntmps30
   go_wp2_with (go_at_call 13; refine (in_any _ _ _ _).mono ?_; rintro e w' ⟨rfl, hw'⟩; rw [hw']; clear hw' w')
   refine (opdOk_any ⟨sm, sr, sx⟩ _).mono ?_
   rintro e w1 ⟨rfl, hb1⟩
   rw [uh HZ] at hb1
   have Bz1 := hb1
   have a0 := uh HCL w1 Bz1 0 _ rfl
   have a1 := uh HCL w1 Bz1 1 _ rfl
   have a2 := uh HCL w1 Bz1 2 _ rfl
   have a3 := uh HCL w1 Bz1 3 _ rfl
   have a4 := uh HCL w1 Bz1 4 _ rfl
   have a5 := uh HCL w1 Bz1 5 _ rfl
   have a6 := uh HCL w1 Bz1 6 _ rfl
   have a7 := uh HCL w1 Bz1 7 _ rfl
   rw [hs]
   go_wp2_with (go_at_call 13; refine (in_any _ _ _ _).mono ?_; rintro e w' ⟨rfl, hw'⟩; rw [hw']; clear hw' w')
   go_ret
   exact ⟨by rw [← uh HR]; rfl, uh HB _ Bz1⟩
  ·
   cases hd : Od.ok ⟨dm, dr, dx⟩
   ·
    have HR := hide (show false = Is.ok ⟨op, ⟨sm, sr, sx⟩, ⟨dm, dr, dx⟩, n⟩ by simp [Is.ok, *])
    go_enter Tryz.func30, Tryz.ntmps30
    go_wp2_with (go_at_call 13; refine (in_any _ _ _ _).mono ?_; rintro e w' ⟨rfl, hw'⟩; rw [hw']; clear hw' w')
    refine (opdOk_any ⟨sm, sr, sx⟩ _).mono ?_
    rintro e w1 ⟨rfl, hb1⟩
    rw [uh HZ] at hb1
    have Bz1 := hb1
    have a0 := uh HCL w1 Bz1 0 _ rfl
    have a1 := uh HCL w1 Bz1 1 _ rfl
    have a2 := uh HCL w1 Bz1 2 _ rfl
    have a3 := uh HCL w1 Bz1 3 _ rfl
    have a4 := uh HCL w1 Bz1 4 _ rfl
    have a5 := uh HCL w1 Bz1 5 _ rfl
    have a6 := uh HCL w1 Bz1 6 _ rfl
    have a7 := uh HCL w1 Bz1 7 _ rfl
    rw [hs]
    clear hb1
    go_wp2_with (go_at_call 13; refine (in_any _ _ _ _).mono ?_; rintro e w' ⟨rfl, hw'⟩; rw [hw']; clear hw' w')
    refine (opdOk_any ⟨dm, dr, dx⟩ _).mono ?_
    rintro e w2 ⟨rfl, hb2⟩
    have Bz2 := Bz1.trans (hb2.mono (by have := Bz1.size; rw [uh HZ] at this; exact this))
    have a0 := uh HCL w2 Bz2 0 _ rfl
    have a1 := uh HCL w2 Bz2 1 _ rfl
    have a2 := uh HCL w2 Bz2 2 _ rfl
    have a3 := uh HCL w2 Bz2 3 _ rfl
    have a4 := uh HCL w2 Bz2 4 _ rfl
    have a5 := uh HCL w2 Bz2 5 _ rfl
    have a6 := uh HCL w2 Bz2 6 _ rfl
    have a7 := uh HCL w2 Bz2 7 _ rfl
    rw [hd]
    go_wp2_with (go_at_call 13; refine (in_any _ _ _ _).mono ?_; rintro e w' ⟨rfl, hw'⟩; rw [hw']; clear hw' w')
    go_ret
    exact ⟨by rw [← uh HR]; rfl, uh HB _ Bz2⟩
   ·
    have HR := hide (show (n == 0) = Is.ok ⟨op, ⟨sm, sr, sx⟩, ⟨dm, dr, dx⟩, n⟩ by simp [Is.ok, *])
    go_enter Tryz.func30, Tryz.ntmps30
    go_wp2_with (go_at_call 13; refine (in_any _ _ _ _).mono ?_; rintro e w' ⟨rfl, hw'⟩; rw [hw']; clear hw' w')
    refine (opdOk_any ⟨sm, sr, sx⟩ _).mono ?_
    rintro e w1 ⟨rfl, hb1⟩
    rw [uh HZ] at hb1
    have Bz1 := hb1
    have a0 := uh HCL w1 Bz1 0 _ rfl
    have a1 := uh HCL w1 Bz1 1 _ rfl
    have a2 := uh HCL w1 Bz1 2 _ rfl
    have a3 := uh HCL w1 Bz1 3 _ rfl
    have a4 := uh HCL w1 Bz1 4 _ rfl
    have a5 := uh HCL w1 Bz1 5 _ rfl
    have a6 := uh HCL w1 Bz1 6 _ rfl
    have a7 := uh HCL w1 Bz1 7 _ rfl
    rw [hs]
    clear hb1
    go_wp2_with (go_at_call 13; refine (in_any _ _ _ _).mono ?_; rintro e w' ⟨rfl, hw'⟩; rw [hw']; clear hw' w')
    refine (opdOk_any ⟨dm, dr, dx⟩ _).mono ?_
    rintro e w2 ⟨rfl, hb2⟩
    have Bz2 := Bz1.trans (hb2.mono (by have := Bz1.size; rw [uh HZ] at this; exact this))
    have a0 := uh HCL w2 Bz2 0 _ rfl
    have a1 := uh HCL w2 Bz2 1 _ rfl
    have a2 := uh HCL w2 Bz2 2 _ rfl
    have a3 := uh HCL w2 Bz2 3 _ rfl
    have a4 := uh HCL w2 Bz2 4 _ rfl
    have a5 := uh HCL w2 Bz2 5 _ rfl
    have a6 := uh HCL w2 Bz2 6 _ rfl
    have a7 := uh HCL w2 Bz2 7 _ rfl
    rw [hd]
    go_wp2_with (go_at_call 13; refine (in_any _ _ _ _).mono ?_; rintro e w' ⟨rfl, hw'⟩; rw [hw']; clear hw' w')
    go_ret
    exact ⟨by rw [← uh HR]; rfl, uh HB _ Bz2⟩
section
def c8 (l : List Int) (j : Nat) : Value := .int .i64 (l.getD j 0)
def cs8 (l : List Int) : Array Value := #[c8 l 0, c8 l 1, c8 l 2, c8 l 3, c8 l 4, c8 l 5, c8 l 6, c8 l 7]
theorem row8 (w : World) (l : List Int) (t : TypeId) : (w.alloc (Obj.cells (cs8 l) t)).rowIs w.heap.size t 8 (c8 l) :=
 ⟨_, Array.getElem?_push_size, rfl, fun i hi => by
  obtain rfl | rfl | rfl | rfl | rfl | rfl | rfl | rfl : i = 0 ∨ i = 1 ∨ i = 2 ∨ i = 3 ∨ i = 4 ∨ i = 5 ∨ i = 6 ∨ i = 7 := by omega
  all_goals rfl⟩
theorem row8_heap {w : World} {b t : Nat} {l : List Int} (h : w.rowIs b t 8 (c8 l)) : w.heap[b]? = some (.cells (cs8 l) t (0, 0)) := by
 obtain ⟨c, hc, hs, hv⟩ := h
 rw [hc]
 congr 2
 apply Array.ext'
 apply List.ext_getElem?
 intro i
 by_cases hi : i < 8
 ·
  rw [Array.getElem?_toList, hv i hi]
  obtain rfl | rfl | rfl | rfl | rfl | rfl | rfl | rfl : i = 0 ∨ i = 1 ∨ i = 2 ∨ i = 3 ∨ i = 4 ∨ i = 5 ∨ i = 6 ∨ i = 7 := by omega
  all_goals rfl
 · rw [List.getElem?_eq_none (by simp; omega), List.getElem?_eq_none (by simp [cs8]; omega)]
theorem row8_set {w : World} {b t : Nat} {l l' : List Int} (h : w.rowIs b t 8 (c8 l)) (k : Nat) (x : Int) (he : ∀ j, j < 8 → (if j = k then Value.int .i64 x else c8 l j) = c8 l' j) : (w.setCell ⟨b, k, none⟩ (.int .i64 x)).rowIs b t 8 (c8 l') := (h.set k _).congr he
section
variable {w wr w' : World} {tb ti : TypeId} {l r o : List Int}
end
end
theorem info3 : (Tryz.prog.info? 3).map (fun i => (i.zero, i.size, i.bytes)) = some (some (.int .i64 0), 1, 8) := by kernel_rfl
def nAt (ns : List Int) (i : Nat) : Int := ns.getD i 0
theorem take_nAt (ns : List Int) (k : Nat) (h : k < ns.length) : ns.take (k + 1) = ns.take k ++ [nAt ns k] := by
 rw [List.take_succ_eq_append_getElem h]; simp [nAt, List.getElem?_eq_getElem h]
def RdN (w : World) (a : Option Addr) (ns : List Int) : Prop :=
 ns = [] ∨ ∃ b off, a = some ⟨b, off, none⟩ ∧ b < w.heap.size ∧ ∀ i, i < ns.length → w.cell? ⟨b, off + i, none⟩ = some (.int .i64 (nAt ns i))
theorem RdN.later {w w' : World} {a : Option Addr} {xs : List Int} (h : RdN w a xs) (hb : Below w.heap.size w w') : RdN w' a xs := by
 rcases h with h | ⟨b, off, ha, hlt, hc⟩
 · exact .inl h
 · exact .inr ⟨b, off, ha, Nat.lt_of_lt_of_le hlt hb.size, fun i hi => (hb.cell (p := ⟨b, off + i, none⟩) hlt).trans (hc i hi)⟩
def cellsN (ns : List Int) : List Value := ns.map fun n => .int .i64 n
theorem cellsN_length (ys : List Int) : (cellsN ys).length = ys.length := by simp [cellsN]
theorem cellsN_append (a b : List Int) : cellsN (a ++ b) = cellsN a ++ cellsN b := by simp [cellsN]
theorem cellsN_one (ys : List Int) : ∀ u ∈ cellsN ys, u.oneCell' = true := by
 intro u hu
 simp only [cellsN, List.mem_map] at hu
 obtain ⟨y, _, rfl⟩ := hu
 rfl
def OwnN (w : World) (B : Nat) (v : Value) (ns : List Int) : Prop := w.ownsRow B 3 1 v ns.length (cellsN ns)
theorem ownN_none (w : World) (B : Nat) : OwnN w B (.slice none 0 0) [] := ⟨rfl, .inl ⟨rfl, rfl⟩⟩
theorem ownN_empty (w : World) : OwnN (w.alloc (Obj.cells #[] 3)) w.heap.size (.slice (some ⟨w.heap.size, 0, none⟩) 0 0) [] :=
 World.ownsRow_lit w #[] 0 (Nat.le_refl _) (by decide) rfl
theorem OwnN.rd {w : World} {B : Nat} {v : Value} {ys : List Int} (h : OwnN w B v ys) : ∃ a cap, v = .slice a ys.length cap ∧ ys.length ≤ cap ∧ cap ≤ maxLen ∧ RdN w a ys ∧ (∀ ad, a = some ad → B ≤ ad.block) ∧ (a = none → cap = 0) := by
 obtain ⟨_, ⟨rfl, h0⟩ | ⟨g, cap, cur, rfl, hg, hh, hn, hm, hs, ht⟩⟩ := id h
 ·
  obtain rfl : ys = [] := List.eq_nil_of_length_eq_zero h0
  exact ⟨none, 0, rfl, Nat.le_refl _, Nat.zero_le _, .inl rfl, (fun _ h => by cases h), fun _ => rfl⟩
 ·
  refine ⟨_, cap, rfl, hn, hm, .inr ⟨g, 0, rfl, (Array.getElem?_eq_some_iff.1 hh).1, fun i hi => ?_⟩, (fun ad h => by cases h; exact hg), fun h => by cases h⟩
  have h2 := World.ownsRow.cellAt h i (by omega)
  rw [Nat.zero_add, h2]
  simp only [cellsN, List.getElem?_map, List.getElem?_eq_getElem hi, Option.map_some]
  unfold nAt
  rw [List.getD_eq_getElem?_getD, List.getElem?_eq_getElem hi]
  rfl
theorem OwnN.rd1 {w : World} {B : Nat} {a : Option Addr} {n cap : Nat} {ys : List Int} (h : OwnN w B (.slice a n cap) ys) : RdN w a ys := by
 obtain ⟨a', cap', e, _, _, hr, _⟩ := h.rd
 cases e
 exact hr
theorem OwnN.keep {w w' : World} {B : Nat} {v : Value} {ys : List Int} (h : OwnN w B v ys) (hs : ∀ g, v.ownBlock = some g → g < w.heap.size → w'.heap[g]? = w.heap[g]?) : OwnN w' B v ys := by
 obtain ⟨h1, h2 | ⟨g, cap, cur, rfl, hg, hh, r⟩⟩ := h
 · exact ⟨h1, .inl h2⟩
 · exact ⟨h1, .inr ⟨g, cap, cur, rfl, hg, (hs g rfl (Array.getElem?_eq_some_iff.1 hh).1).trans hh, r⟩⟩
theorem OwnN.later {w w' : World} {B : Nat} {v : Value} {ys : List Int} (h : OwnN w B v ys) (hb : Below w.heap.size w w') : OwnN w' B v ys := h.keep fun g _ hg => hb.block g hg
theorem OwnN.lt {w : World} {B : Nat} {v : Value} {ys : List Int} (h : OwnN w B v ys) {g : Nat} (hg : v.ownBlock = some g) : B ≤ g ∧ g < w.heap.size := World.ownsRow.lt h g hg
theorem OwnN.base {w : World} {B B' : Nat} {v : Value} {ys : List Int} (h : OwnN w B v ys) (hB : B' ≤ B) : OwnN w B' v ys := by
 obtain ⟨h1, h2 | ⟨g, cap, cur, e, hg, r⟩⟩ := h
 · exact ⟨h1, .inl h2⟩
 · exact ⟨h1, .inr ⟨g, cap, cur, e, Nat.le_trans hB hg, r⟩⟩
theorem OwnN.form {w : World} {B : Nat} {v : Value} {ys : List Int} (h : OwnN w B v ys) : (v = .slice none 0 0 ∧ ys = []) ∨ ∃ g cap, v = .slice (some ⟨g, 0, none⟩) ys.length cap ∧ B ≤ g ∧ g < w.heap.size ∧ ys.length ≤ cap ∧ cap ≤ maxLen := by
 obtain ⟨_, ⟨h1, h2⟩ | ⟨g, cap, cur, rfl, hg, hh, hn, hm, r⟩⟩ := h
 · exact .inl ⟨h1, List.eq_nil_of_length_eq_zero h2⟩
 · exact .inr ⟨g, cap, rfl, hg, (Array.getElem?_eq_some_iff.1 hh).1, hn, hm⟩
theorem grownBy_trans {a b c : World} {r : Option Nat} (h : a.grownBy b r) (k : b.grownBy c r) : a.grownBy c r :=
 ⟨k.os.trans h.os, k.tape.trans h.tape, k.output.trans h.output, Nat.le_trans h.size k.size, fun j hj hn => (k.block j (Nat.lt_of_lt_of_le hj h.size) hn).trans (h.block j hj hn)⟩
theorem below_drewN {B : Nat} {a w : World} (h : Below B a w) (n : Nat) : Below B a (w.drewN n) := h.trans ⟨rfl, rfl, rfl, Nat.le_refl _, fun _ _ => rfl⟩
theorem eqIntS_same (a b : Option Addr) (len c1 c2 : Nat) (xs : List Int) (w : World) (hl : xs.length = len) (hm : len ≤ 1099511627776) (h1 : RdN w a xs) (h2 : RdN w b xs) :
  Calls Tryz.prog 18 #[.slice a len c1, .slice b len c2] w fun e w' => e = .returned (.bool true) ∧ Below w.heap.size w w' := by
 go_enter Tryz.func18, Tryz.ntmps18
 go_wp2
 go_loopw [5] (fun i wr => ∃ k : Nat, k ≤ len ∧ i = .int .i64 k ∧ Below w.heap.size w wr) (fun i _ => len - (intOf i).toNat)
 case atStart => exact ⟨0, Nat.zero_le _, rfl, Below.refl _ _⟩
 case round =>
  obtain ⟨k, hk, rfl, hbel⟩ := hrel
  by_cases hlt : k < len
  ·
   rcases h1 with rfl | ⟨p, po, rfl, hp, hpc⟩
   · simp at hl; omega
   rcases h2 with h0 | ⟨q, qo, rfl, hq, hqc⟩
   · rw [h0] at hl; simp at hl; omega
   have e1 : wr.cell? ⟨p, po + k, none⟩ = some (.int .i64 (nAt xs k)) := (hbel.cell (p := ⟨p, po + k, none⟩) hp).trans (hpc k (by omega))
   have e2 : wr.cell? ⟨q, qo + k, none⟩ = some (.int .i64 (nAt xs k)) := (hbel.cell (p := ⟨q, qo + k, none⟩) hq).trans (hqc k (by omega))
   clear hpc hqc
   go_wp2_with fail
   go_quiet (fail)
   go_wp2
   go_roundw
   case rel => exact ⟨k + 1, by omega, by go_num, below_drewN hbel _⟩
   case measure => simp [intOf]; omega
  ·
   go_wp2
   go_ret
   exact ⟨rfl, hbel⟩
def markN (k n : Nat) : List Int := (List.range n).map fun (i : Nat) => (k : Int) + (i : Int)
theorem markN_length (k n : Nat) : (markN k n).length = n := by simp [markN]
theorem markN_at (k n i : Nat) (h : i < n) : nAt (markN k n) i = (k : Int) + i := by
 unfold nAt markN
 rw [List.getD_eq_getElem?_getD, List.getElem?_map, List.getElem?_range h]
 simp
theorem mark_step (k0 k : Nat) (xs : List Int) (h : k < xs.length) : (cellsN (markN k0 k ++ xs.drop k)).set k (.int .i64 ((k0 : Int) + k)) = cellsN (markN k0 (k + 1) ++ xs.drop (k + 1)) := by
 have e1 : markN k0 (k + 1) = markN k0 k ++ [(k0 : Int) + (k : Int)] := by simp [markN, List.range_succ]
 have e2 : xs.drop k = xs[k] :: xs.drop (k + 1) := List.drop_eq_getElem_cons h
 have e4 : (cellsN (markN k0 k)).length = k := by rw [cellsN_length, markN_length]
 have e6 : cellsN (xs.drop k) = cellsN [xs[k]] ++ cellsN (xs.drop (k + 1)) := by rw [e2, ← cellsN_append]; rfl
 rw [e1, cellsN_append, cellsN_append, cellsN_append, e6, List.set_append_right _ _ (by omega), e4, Nat.sub_self]
 simp [cellsN]
def IsRow (k : IntKind) (w : World) (a : Option Addr) (len cap : Nat) (zs : List Int) : Prop :=
 (a = none ∧ len = 0 ∧ cap = 0 ∧ zs = []) ∨
 ∃ x, a = some x ∧ len ≤ cap ∧ cap ≤ maxLen ∧ zs.length = cap ∧ (∀ i, i < zs.length → w.cell? (x.add i) = some (.int k (zs.getD i 0))) ∧ ∀ n ∈ zs, (Lit.int k n).wf = true
theorem grownBy_set {w : World} {b o : Nat} (v : Value) : w.grownBy (w.setCell ⟨b, o, none⟩ v) (some b) :=
 ⟨rfl, rfl, rfl, by simp, fun k _ hk => Below.heap_setCell w ⟨b, o, none⟩ v k (fun e => hk (by simp [e]))⟩
theorem grownBy_below {w w' : World} {r : Option Nat} (hb : Below w.heap.size w w') : w.grownBy w' r := ⟨hb.os, hb.tape, hb.output, hb.size, fun k hk _ => hb.block k hk⟩
theorem grownBy_own {w w1 w2 : World} {r row : Option Nat} (h : w.grownBy w1 r) (k : w1.grownBy w2 row) (hr : ∀ g, row = some g → w.heap.size ≤ g) : w.grownBy w2 r :=
 ⟨k.os.trans h.os, k.tape.trans h.tape, k.output.trans h.output, Nat.le_trans h.size k.size, fun j hj hn => (k.block j (Nat.lt_of_lt_of_le hj h.size) (fun e => by have := hr j e.symm; omega)).trans (h.block j hj hn)⟩
theorem RdN.past {w w' : World} {a : Option Addr} {ns : List Int} {b : Nat} (h : RdN w a ns) (hb : w.grownBy w' (some b)) (hne : ∀ ad, a = some ad → ad.block ≠ b) : RdN w' a ns := by
 rcases h with h | ⟨c, off, rfl, hlt, hc⟩
 · exact .inl h
 · exact .inr ⟨c, off, rfl, Nat.lt_of_lt_of_le hlt hb.size, fun i hi => (World.cell?_of_block (w := w) (hb.block c hlt (by have := hne _ rfl; simpa using this))).trans (hc i hi)⟩
theorem toIntS_any (a : Option Addr) (len cap : Nat) (xs : List Int) (w : World) (hl : xs.length = len) (hm : len ≤ 1048576) (hr : RdN w a xs) :
  Calls Tryz.prog 16 #[.slice a len cap] w fun e w' => ∃ v, e = .returned v ∧ OwnN w' w.heap.size v xs ∧ Below w.heap.size w w' := by
 have hmk := run_make_row' (P := Tryz.prog) 22 3 (.int .i64 0) 8 Tryz.underlying22 info3 rfl .i64 .i64 len (by omega) (by omega)
 go_enter Tryz.func16, Tryz.ntmps16
 go_wp2
 go_loopw [4] (fun i wr => ∃ k : Nat, k ≤ len ∧ i = .int .i64 k ∧ wr.rowIs w.heap.size 3 len (fun j => if j < k then .int .i64 (nAt xs j) else .int .i64 0) ∧ Below w.heap.size w wr) (fun i _ => len - (intOf i).toNat)
 case atStart => exact ⟨0, Nat.zero_le _, rfl, (World.rowIs_made w (.int .i64 0) len 3).congr (fun i hi => by simp), (Below.refl _ _).alloc (Nat.le_refl _) _⟩
 case round =>
  obtain ⟨k, hk, rfl, hrow, hbel⟩ := hrel
  by_cases hlt : k < len
  ·
   rcases hr with rfl | ⟨b, off, rfl, hb, hc⟩
   · simp at hl; omega
   have hcx : wr.cell? ⟨b, off + k, none⟩ = some (.int .i64 (nAt xs k)) := (hbel.cell (p := ⟨b, off + k, none⟩) hb).trans (hc k (by omega))
   have hfz := hrow.frozen k
   have hco := hrow.cell hlt
   have hR := (hrow.set k (.int .i64 (nAt xs k))).congr (g := fun j => if j < k + 1 then .int .i64 (nAt xs j) else .int .i64 0) (fun j hj => by
    by_cases e : j = k
    · simp [e]
    ·
     by_cases e2 : j < k
     · simp [e, e2, show j < k + 1 by omega]
     · simp [e, e2, show ¬ j < k + 1 by omega])
   have hB := hbel.setCell (p := ⟨w.heap.size, k, none⟩) (Nat.le_refl _) (.int .i64 (nAt xs k))
   clear hrow hbel
   go_wp2
   go_roundw
   case rel => exact ⟨k + 1, by omega, by go_num, hR, hB⟩
   case measure => simp [intOf]; omega
  ·
   have hR := hrow.congr (g := fun j => .int .i64 (nAt xs j)) (fun j hj => by simp [show j < k by omega])
   clear hrow
   go_wp2
   go_ret
   refine ⟨.slice (some ⟨w.heap.size, 0, none⟩) len len, rfl, ?_, hbel⟩
   obtain ⟨c, hc, hs, hv⟩ := hR
   refine ⟨by rw [cellsN_length]; omega, .inr ⟨w.heap.size, len, c, by rw [hl], Nat.le_refl _, hc, by omega, by unfold maxLen; omega, by omega, ?_⟩⟩
   rw [hl, Nat.mul_one, List.take_of_length_le (by simp; omega)]
   apply List.ext_getElem?
   intro i
   by_cases hi : i < len
   ·
    rw [Array.getElem?_toList, hv i hi]
    simp only [cellsN, List.getElem?_map, List.getElem?_eq_getElem (show i < xs.length by omega), Option.map_some, nAt, List.getD_eq_getElem?_getD, Option.getD_some]
   · rw [List.getElem?_eq_none (by simp; omega), List.getElem?_eq_none (by rw [cellsN_length]; omega)]
def Bds (ns : List Int) : Prop := ∀ i, i < ns.length → -9223372036854775808 ≤ nAt ns i ∧ nAt ns i ≤ 9223372036854775807
theorem rdN_of_row {w : World} {a : Option Addr} {len cap : Nat} {zs : List Int} (h : IsRow .i64 w a len cap zs) :
  ∃ ns : List Int, ns.length = len ∧ len ≤ cap ∧ cap ≤ maxLen ∧ RdN w a ns ∧ Bds ns := by
 rcases h with ⟨rfl, rfl, rfl, rfl⟩ | ⟨x, rfl, hl, hm, hz, hcell, hwz⟩
 · exact ⟨[], rfl, Nat.le_refl _, by unfold maxLen; omega, .inl rfl, fun i hi => by simp at hi⟩
 ·
  have hat : ∀ i, i < len → nAt (zs.take len) i = zs.getD i 0 := fun i hi => by
   unfold nAt
   rw [List.getD_eq_getElem?_getD, List.getD_eq_getElem?_getD, List.getElem?_take, if_pos hi]
  refine ⟨zs.take len, by simp; omega, hl, hm, ?_, fun i hi => ?_⟩
  ·
   by_cases h0 : len = 0
   · left; simp [h0]
   ·
    right
    obtain ⟨b, off, spot⟩ := x
    have h00 := hcell 0 (by omega)
    have hspot : spot = none := by simpa [Addr.add] using World.cell?_spot h00
    subst hspot
    refine ⟨b, off, rfl, World.block_lt_of_cell? w _ h00, fun i hi => ?_⟩
    have hi' : i < len := by simp at hi; omega
    have := hcell i (by omega)
    rw [hat i hi']
    exact (show w.cell? ⟨b, off + i, none⟩ = _ by have h2 := this; unfold Addr.add at h2; by_cases hi0 : i = 0 <;> simpa [hi0] using h2)
  ·
   have hi' : i < len := by simp at hi; omega
   rw [hat i hi']
   have := bounds_i64 (hwz (zs.getD i 0) (by rw [List.getD_eq_getElem?_getD, List.getElem?_eq_getElem (by omega)]; exact List.getElem_mem _))
   omega
section
structure Sub (B : Nat) (w0 : World) where
 w : World
 h : Below B w0 w
theorem Sub.ne (B : Nat) (w0 : World) : Nonempty (Sub B w0) := ⟨⟨w0, Below.refl _ _⟩⟩
section
variable {B : Nat} {w0 : World} {P : Program}
theorem Sub.call {f : FuncId} {args : Array Value} {x : Sub B w0} {v : Value} (hB : B ≤ w0.heap.size) (h : Calls P f args x.w fun e w' => e = .returned v ∧ Below x.w.heap.size x.w w') : Calls P f args x.w fun e w' => e = .returned v ∧ ∃ y : Sub B w0, w' = y.w :=
 h.mono fun e w' ⟨he, hb⟩ => ⟨he, ⟨w', x.h.trans (hb.mono (Nat.le_trans hB x.h.size))⟩, rfl⟩
theorem Sub.same {f : FuncId} {args : Array Value} {x : Sub B w0} {v : Value} (h : Calls P f args x.w fun e w' => e = .returned v ∧ w' = x.w) : Calls P f args x.w fun e w' => e = .returned v ∧ ∃ y : Sub B w0, w' = y.w :=
 h.mono fun e w' ⟨he, hb⟩ => ⟨he, x, hb⟩
def Sub.top (o : World) (b : Obj) : Sub (o.heap.size + 1) (o.alloc b) := ⟨_, Below.refl _ _⟩
theorem Sub.cells {o : World} {cs : Array Value} {t : TypeId} (y : Sub (o.heap.size + 1) (o.alloc (Obj.cells cs t))) (j : Nat) (v : Value) (h : cs[j]? = some v) : y.w.cell? ⟨o.heap.size, j, none⟩ = some v :=
 box_cells o cs t y.w y.h j v h
theorem wp_region_sub {id : Nat} {Q : Exit → Act → World → Prop} {a : Act} (x : Sub B w0) {l : List Oper} (hm : P.follows .mixedOrders = true) (hB : Region.lexB .any l.toArray = true)
  (h : wpQuiet P l.toArray (fun w' => ∃ y : Sub B w0, w' = y.w) (fun a' => ∀ y : Sub B w0, Q .normal a' y.w) l a) : (Code.region id l.toArray true).wp P Q a x.w :=
 wp_region_quiet (C := fun w' => ∃ y : Sub B w0, w' = y.w) hm hB ⟨⟨_, x.h.drew⟩, rfl⟩ (by
  have e : (fun a' => ∀ w', (∃ y : Sub B w0, w' = y.w) → Q .normal a' w') = (fun a' => ∀ y : Sub B w0, Q .normal a' y.w) := by
   funext a'
   apply propext
   constructor
   · intro h y; exact h _ ⟨y, rfl⟩
   · rintro h _ ⟨y, rfl⟩; exact h y
  rw [e]
  simpa using h)
end
end
section
structure Sl where
 a : Option Addr
 n : Nat
 c : Nat
structure Mv where
 m : Sl
 r : Sl
 n : Bool
 z : Bool
 v : Bool
 c : Bool
 i : Sl
 o : Sl
 st : Int
def Mv.cs (x : Mv) : Array Value := #[.slice x.m.a x.m.n x.m.c, .slice x.r.a x.r.n x.r.c, .bool x.n, .bool x.z, .bool x.v, .bool x.c, .slice x.i.a x.i.n x.i.c, .slice x.o.a x.o.n x.o.c, .int .i64 x.st]
theorem Mv.cs_one (x : Mv) : x.cs.all (·.oneCell') = true := by simp [Mv.cs, Value.oneCell']
section
variable {w : World} {g : Nat} {x : Mv} {t : TypeId}
theorem row_m (h : w.heap[g]? = some (.cells x.cs t (0, 0))) : w.cell? ⟨g, 0, none⟩ = some (.slice x.m.a x.m.n x.m.c) := (cell_of_row w g 0 _ t _ h).trans rfl
theorem row_r (h : w.heap[g]? = some (.cells x.cs t (0, 0))) : w.cell? ⟨g, 1, none⟩ = some (.slice x.r.a x.r.n x.r.c) := (cell_of_row w g 1 _ t _ h).trans rfl
theorem row_n (h : w.heap[g]? = some (.cells x.cs t (0, 0))) : w.cell? ⟨g, 2, none⟩ = some (.bool x.n) := (cell_of_row w g 2 _ t _ h).trans rfl
theorem row_z (h : w.heap[g]? = some (.cells x.cs t (0, 0))) : w.cell? ⟨g, 3, none⟩ = some (.bool x.z) := (cell_of_row w g 3 _ t _ h).trans rfl
theorem row_v (h : w.heap[g]? = some (.cells x.cs t (0, 0))) : w.cell? ⟨g, 4, none⟩ = some (.bool x.v) := (cell_of_row w g 4 _ t _ h).trans rfl
theorem row_c (h : w.heap[g]? = some (.cells x.cs t (0, 0))) : w.cell? ⟨g, 5, none⟩ = some (.bool x.c) := (cell_of_row w g 5 _ t _ h).trans rfl
theorem row_i (h : w.heap[g]? = some (.cells x.cs t (0, 0))) : w.cell? ⟨g, 6, none⟩ = some (.slice x.i.a x.i.n x.i.c) := (cell_of_row w g 6 _ t _ h).trans rfl
theorem row_o (h : w.heap[g]? = some (.cells x.cs t (0, 0))) : w.cell? ⟨g, 7, none⟩ = some (.slice x.o.a x.o.n x.o.c) := (cell_of_row w g 7 _ t _ h).trans rfl
theorem row_st (h : w.heap[g]? = some (.cells x.cs t (0, 0))) : w.cell? ⟨g, 8, none⟩ = some (.int .i64 x.st) := (cell_of_row w g 8 _ t _ h).trans rfl
theorem row_fz (h : w.heap[g]? = some (.cells x.cs t (0, 0))) (j : Nat) : w.frozen? ⟨g, j, none⟩ = false := by simp [World.frozen?, h]
end
def szL (l : Int) (n : Nat) : Int := if (n : Int) ≤ l then l - n else -1
def Mv.lens (x : Mv) : Prop := x.m.n ≤ maxLen ∧ x.r.n ≤ maxLen ∧ x.i.n ≤ maxLen ∧ x.o.n ≤ maxLen
def Mv.small (x : Mv) : Prop := x.m.n ≤ 1048576 ∧ x.r.n ≤ 1048576 ∧ x.i.n ≤ 1048576 ∧ x.o.n ≤ 1048576
theorem szL_bd (l : Int) (n : Nat) (h : l ≤ 1048576) : szL l n ≤ 1048576 ∧ (0 ≤ szL l n → (n : Int) ≤ 1048576) := by unfold szL; split <;> omega
theorem szS_any (a : Option Addr) (n c : Nat) (l : Int) (w : World) (hn : n ≤ maxLen) (h0 : 0 ≤ l) (hl : l ≤ 1048576) : Calls Tryz.prog 11 #[.slice a n c, .int .i64 l] w fun e w' => e = .returned (.int .i64 (szL l n)) ∧ w' = w := by
 unfold maxLen at hn
 unfold szL
 by_cases h : (n : Int) ≤ l
 ·
  rw [if_pos h]
  go_enter Tryz.func11, Tryz.ntmps11
  go_wp2
  go_ret
  exact ⟨rfl, rfl⟩
 ·
  rw [if_neg h]
  go_enter Tryz.func11, Tryz.ntmps11
  go_wp2
  go_ret
  exact ⟨rfl, rfl⟩
theorem szM_any (x : Mv) (w : World) (hx : x.lens) : Calls Tryz.prog 4 #[.agg x.cs, .int .i64 1048576] w fun e w' => ∃ l : Int, e = .returned (.int .i64 l) ∧ (0 ≤ l → x.small) ∧ Below w.heap.size w w' := by
 obtain ⟨h1, h2, h3, h4⟩ := hx
 have HB := hide ((Below.refl w.heap.size w).alloc (Nat.le_refl _) (.cells x.cs 24))
 have H : (w.alloc (.cells x.cs 24)).heap[w.heap.size]? = some (.cells x.cs 24 (0, 0)) := heap_alloc_last w _
 have c0 := row_m H
 have c1 := row_r H
 have c6 := row_i H
 have c7 := row_o H
 clear H
 go_enter Tryz.func4, Tryz.ntmps4
 go_wp2_with fail
 refine (szS_any x.m.a x.m.n x.m.c 1048576 _ h1 (by omega) (by omega)).mono ?_
 rintro e w' ⟨rfl, rfl⟩
 have b1 := szL_bd 1048576 x.m.n (by omega)
 generalize szL 1048576 x.m.n = l1 at b1 ⊢
 by_cases p1 : l1 < 0
 ·
  go_wp2
  go_ret
  exact ⟨-1, rfl, fun h => by omega, uh HB⟩
 go_wp2_with fail
 refine (szS_any x.r.a x.r.n x.r.c l1 _ h2 (by omega) (by omega)).mono ?_
 rintro e w' ⟨rfl, rfl⟩
 have b2 := szL_bd l1 x.r.n (by omega)
 generalize szL l1 x.r.n = l2 at b2 ⊢
 by_cases p2 : l2 < 0
 ·
  go_wp2
  go_ret
  exact ⟨-1, rfl, fun h => by omega, uh HB⟩
 go_wp2_with fail
 refine (szS_any x.i.a x.i.n x.i.c l2 _ h3 (by omega) (by omega)).mono ?_
 rintro e w' ⟨rfl, rfl⟩
 have b3 := szL_bd l2 x.i.n (by omega)
 generalize szL l2 x.i.n = l3 at b3 ⊢
 by_cases p3 : l3 < 0
 ·
  go_wp2
  go_ret
  exact ⟨-1, rfl, fun h => by omega, uh HB⟩
 go_wp2_with fail
 refine (szS_any x.o.a x.o.n x.o.c l3 _ h4 (by omega) (by omega)).mono ?_
 rintro e w' ⟨rfl, rfl⟩
 have b4 := szL_bd l3 x.o.n (by omega)
 generalize szL l3 x.o.n = l4 at b4 ⊢
 by_cases p4 : l4 < 0
 ·
  go_wp2
  go_ret
  exact ⟨-1, rfl, fun h => by omega, uh HB⟩
 go_wp2
 go_ret
 exact ⟨l4, rfl, fun h => ⟨by omega, by omega, by omega, by omega⟩, uh HB⟩
end
end Go.Proofs.YtboedaofbchdkaaGreatDoor
