/- A machine's value and what it holds; the size of what came in; over this seat's translation; conditions stand as hypotheses of each. -/
import Derived.Test.YtboedaofbchdkaaDoorMarks
import Derived.Test.YtboedaofbchdkaaDoorSubW
import Derived.Deep.WholeRow
import Derived.Deep.RegionWith
namespace Go.Proofs.YtboedaofbchdkaaDoor
open Go.ChangeShapes Go.WideShapes Go.ChangeAt Go.RowKit
set_option linter.unusedVariables false
set_option maxRecDepth 8000
set_option linter.unusedSimpArgs false

/-- A slice: address, length, room. -/
structure Sl where
  a : Option Addr
  n : Nat
  c : Nat
/-- A machine as a value. -/
structure Mv where
  m : Sl
  r : Sl
  n : Bool
  z : Bool
  v : Bool
  c : Bool
  i : Sl
  o : Sl
  st : Int
def Mv.cs (x : Mv) : Array Value := #[.slice x.m.a x.m.n x.m.c, .slice x.r.a x.r.n x.r.c, .bool x.n, .bool x.z, .bool x.v, .bool x.c, .slice x.i.a x.i.n x.i.c, .slice x.o.a x.o.n x.o.c, .int .i64 x.st]
theorem Mv.cs_one (x : Mv) : x.cs.all (·.oneCell') = true := by simp [Mv.cs, Value.oneCell']
theorem Mv.cs_size (x : Mv) : x.cs.size = 9 := rfl

section
variable {w : World} {g : Nat} {x : Mv} {t : TypeId}
theorem row_m (h : w.heap[g]? = some (.cells x.cs t (0, 0))) : w.cell? ⟨g, 0, none⟩ = some (.slice x.m.a x.m.n x.m.c) := (cell_of_row w g 0 _ t _ h).trans rfl
theorem row_r (h : w.heap[g]? = some (.cells x.cs t (0, 0))) : w.cell? ⟨g, 1, none⟩ = some (.slice x.r.a x.r.n x.r.c) := (cell_of_row w g 1 _ t _ h).trans rfl
theorem row_n (h : w.heap[g]? = some (.cells x.cs t (0, 0))) : w.cell? ⟨g, 2, none⟩ = some (.bool x.n) := (cell_of_row w g 2 _ t _ h).trans rfl
theorem row_z (h : w.heap[g]? = some (.cells x.cs t (0, 0))) : w.cell? ⟨g, 3, none⟩ = some (.bool x.z) := (cell_of_row w g 3 _ t _ h).trans rfl
theorem row_v (h : w.heap[g]? = some (.cells x.cs t (0, 0))) : w.cell? ⟨g, 4, none⟩ = some (.bool x.v) := (cell_of_row w g 4 _ t _ h).trans rfl
theorem row_c (h : w.heap[g]? = some (.cells x.cs t (0, 0))) : w.cell? ⟨g, 5, none⟩ = some (.bool x.c) := (cell_of_row w g 5 _ t _ h).trans rfl
theorem row_i (h : w.heap[g]? = some (.cells x.cs t (0, 0))) : w.cell? ⟨g, 6, none⟩ = some (.slice x.i.a x.i.n x.i.c) := (cell_of_row w g 6 _ t _ h).trans rfl
theorem row_o (h : w.heap[g]? = some (.cells x.cs t (0, 0))) : w.cell? ⟨g, 7, none⟩ = some (.slice x.o.a x.o.n x.o.c) := (cell_of_row w g 7 _ t _ h).trans rfl
theorem row_st (h : w.heap[g]? = some (.cells x.cs t (0, 0))) : w.cell? ⟨g, 8, none⟩ = some (.int .i64 x.st) := (cell_of_row w g 8 _ t _ h).trans rfl
theorem row_fz (h : w.heap[g]? = some (.cells x.cs t (0, 0))) (j : Nat) : w.frozen? ⟨g, j, none⟩ = false := by simp [World.frozen?, h]
end

/-- What is left of l behind n, as a size. -/
def szL (l : Int) (n : Nat) : Int := if (n : Int) ≤ l then l - n else -1
def Mv.lens (x : Mv) : Prop := x.m.n ≤ maxLen ∧ x.r.n ≤ maxLen ∧ x.i.n ≤ maxLen ∧ x.o.n ≤ maxLen
def Mv.small (x : Mv) : Prop := x.m.n ≤ 1048576 ∧ x.r.n ≤ 1048576 ∧ x.i.n ≤ 1048576 ∧ x.o.n ≤ 1048576
theorem szL_bd (l : Int) (n : Nat) (h : l ≤ 1048576) : szL l n ≤ 1048576 ∧ (0 ≤ szL l n → (n : Int) ≤ 1048576) := by unfold szL; split <;> omega

set_option maxHeartbeats 400000 in
theorem szS_any (a : Option Addr) (n c : Nat) (l : Int) (w : World) (hn : n ≤ maxLen) (h0 : 0 ≤ l) (hl : l ≤ 1048576) : Calls Tryd.prog 34 #[.slice a n c, .int .i64 l] w fun e w' => e = .returned (.int .i64 (szL l n)) ∧ w' = w := by
  unfold maxLen at hn
  unfold szL
  by_cases h : (n : Int) ≤ l
  · rw [if_pos h]
    go_enter Tryd.func34, Tryd.ntmps34
    go_wp2
    go_ret
    exact ⟨rfl, rfl⟩
  · rw [if_neg h]
    go_enter Tryd.func34, Tryd.ntmps34
    go_wp2
    go_ret
    exact ⟨rfl, rfl⟩

set_option maxHeartbeats 1000000 in
theorem szM_any (x : Mv) (w : World) (hx : x.lens) : Calls Tryd.prog 13 #[.agg x.cs, .int .i64 1048576] w fun e w' => ∃ l : Int, e = .returned (.int .i64 l) ∧ (0 ≤ l → x.small) ∧ Below w.heap.size w w' := by
  obtain ⟨h1, h2, h3, h4⟩ := hx
  have HB := hide ((Below.refl w.heap.size w).alloc (Nat.le_refl _) (.cells x.cs 38))
  have H : (w.alloc (.cells x.cs 38)).heap[w.heap.size]? = some (.cells x.cs 38 (0, 0)) := heap_alloc_last w _
  have c0 := row_m H
  have c1 := row_r H
  have c6 := row_i H
  have c7 := row_o H
  clear H
  go_enter Tryd.func13, Tryd.ntmps13
  go_wp2_with fail
  refine (szS_any x.m.a x.m.n x.m.c 1048576 _ h1 (by omega) (by omega)).mono ?_
  rintro e w' ⟨rfl, rfl⟩
  have b1 := szL_bd 1048576 x.m.n (by omega)
  generalize szL 1048576 x.m.n = l1 at b1 ⊢
  by_cases p1 : l1 < 0
  · go_wp2
    go_ret
    exact ⟨-1, rfl, fun h => by omega, unhide HB⟩
  go_wp2_with fail
  refine (szS_any x.r.a x.r.n x.r.c l1 _ h2 (by omega) (by omega)).mono ?_
  rintro e w' ⟨rfl, rfl⟩
  have b2 := szL_bd l1 x.r.n (by omega)
  generalize szL l1 x.r.n = l2 at b2 ⊢
  by_cases p2 : l2 < 0
  · go_wp2
    go_ret
    exact ⟨-1, rfl, fun h => by omega, unhide HB⟩
  go_wp2_with fail
  refine (szS_any x.i.a x.i.n x.i.c l2 _ h3 (by omega) (by omega)).mono ?_
  rintro e w' ⟨rfl, rfl⟩
  have b3 := szL_bd l2 x.i.n (by omega)
  generalize szL l2 x.i.n = l3 at b3 ⊢
  by_cases p3 : l3 < 0
  · go_wp2
    go_ret
    exact ⟨-1, rfl, fun h => by omega, unhide HB⟩
  go_wp2_with fail
  refine (szS_any x.o.a x.o.n x.o.c l3 _ h4 (by omega) (by omega)).mono ?_
  rintro e w' ⟨rfl, rfl⟩
  have b4 := szL_bd l3 x.o.n (by omega)
  generalize szL l3 x.o.n = l4 at b4 ⊢
  by_cases p4 : l4 < 0
  · go_wp2
    go_ret
    exact ⟨-1, rfl, fun h => by omega, unhide HB⟩
  go_wp2
  go_ret
  exact ⟨l4, rfl, fun h => ⟨by omega, by omega, by omega, by omega⟩, unhide HB⟩
end Go.Proofs.YtboedaofbchdkaaDoor
