/- Contracts over this seat's translation, laid together; conditions stand as hypotheses of each. -/
import Derived.Test.YtjpbjbnialehbaaGreatDoorBsA
import Derived.Test.YtjpbjbnialehbaaGreatDoorBsB
import Derived.Test.YtjpbjbnialehbaaGreatDoorBsC
import Derived.Maps.AppendAt
import Derived.Deep.RegionWith

namespace Go.Proofs.YtjpbjbnialehbaaGreatDoor
open Go.ChangeShapes Go.WideShapes Go.ChangeAt Go.RowKit
set_option linter.unusedVariables false
set_option maxRecDepth 8000
set_option linter.unusedSimpArgs false
/-- Is the word there to be read behind the address. -/
def oddM (mo : Nat) : Bool := mo == 3 || (mo == 5 || mo == 7)
def Md.plD (d : Md) (mo re : Nat) : Md := if mo = 0 then d else d.adD mo re
def Md.plO (d : Md) (mo re : Nat) : Bool := if mo = 0 then true else (d.adO mo re && (!oddM mo || (d.adD mo re).has (d.adV mo re)))
def Md.plR (d : Md) (mo re : Nat) : Int := if mo = 0 then (re : Int) else if d.plO mo re = true then -1 else 0
def Md.plA (d : Md) (mo re : Nat) : Int := if mo = 0 then -1 else if d.plO mo re = true then (if oddM mo = true then (d.adD mo re).get (d.adV mo re) else d.adV mo re) else 0
theorem own_at_lt {w : World} {B b : Nat} {x : Mv} {d : Md} (h : OwnM w B x d) (hb : x.at b) : b < w.heap.size := by
  rcases hb with h1 | h1 | h1 | h1
  · exact (h.m.lt h1).2
  · exact (h.r.lt h1).2
  · exact (h.i.lt h1).2
  · exact (h.o.lt h1).2
theorem grown_setRow {w w1 : World} {o : Option Nat} {b : Nat} (h : w.grownBy w1 o) (hb : w.heap.size ≤ b) (cs : Array Value) : w.grownBy (w1.setRow b cs) o :=
  ⟨h.os, h.tape, h.output, by rw [setRow_size]; exact h.size, fun k hk hne => (setRow_other w1 b k cs (by omega)).trans (h.block k hk hne)⟩
theorem Pm.setRow {w w1 : World} {g B gr rc b : Nat} {x : Mv} {d : Md} (h : Pm w1 g B gr rc x d) (hg : g < w.heap.size) (ha : ∀ b, x.at b → b < w.heap.size) (hb : w.heap.size ≤ b) (cs : Array Value) : Pm (w1.setRow b cs) g B gr rc x d :=
  ⟨(setRow_other w1 b g cs (by omega)).trans h.row, h.own.keepH fun k hk _ => setRow_other w1 b k cs (by have := ha k hk; omega), h.er, h.ne⟩
section
variable (g B gr rc re : Nat) (X : Int) (x : Mv) (d : Md) (w : World)
/-- What l6At answers, by its parts. -/
def AtP (mo : Int) (v : Int) (ok : Bool) (d2 : Md) : Prop := ∀ wb, Pm wb g B gr rc x d → Calls Tryz.prog 122 #[.pointer (some ⟨g, 0, none⟩), .agg #[.int .i64 mo, .int .i64 (re : Int), .int .i64 X]] wb fun e w' => e = .returned (.tuple #[.int .i64 v, .bool ok]) ∧ Pm w' g B gr rc x d2 ∧ wb.grownBy w' (some gr)
def PlP (mo : Int) (rr aa : Int) (ok : Bool) (d2 : Md) : Prop := Calls Tryz.prog 89 #[.pointer (some ⟨g, 0, none⟩), .agg #[.int .i64 mo, .int .i64 (re : Int), .int .i64 X]] w fun e w' => e = .returned (.tuple #[.agg #[.int .i64 rr, .int .i64 aa], .bool ok]) ∧ Pm w' g B gr rc x d2 ∧ w.grownBy w' (some gr)
set_option maxHeartbeats 4000000 in
theorem plN_1 (P : Pm w g B gr rc x d) (hs : x.small) (v : Int) (d2 : Md) (A : AtP g B gr rc re X x d 1 v false d2) : PlP g B gr rc re X x w 1 0 0 false d2 := by
  have bel : Below w.heap.size w ((w.alloc (.cells #[.int .i64 1, .int .i64 (re : Int), .int .i64 X] 67)).alloc (.cells #[.int .i64 0, .int .i64 0] 97)) := ((Below.refl _ _).alloc (Nat.le_refl _) _).alloc (by simp) _
  have PB := hide (P.later bel)
  have GL := hide (row_lt P.row)
  have AT := hide (fun b (hb : x.at b) => own_at_lt P.own hb)
  have glt := own_rlt P.own P.er
  have GN := hide (And.intro (show gr ≠ w.heap.size by omega) (show gr ≠ w.heap.size + 1 by omega))
  have BX := hide (show ((w.alloc (.cells #[.int .i64 1, .int .i64 (re : Int), .int .i64 X] 67)).alloc (.cells #[.int .i64 0, .int .i64 0] 97)).heap[w.heap.size]? = some (.cells #[.int .i64 1, .int .i64 (re : Int), .int .i64 X] 67 (0, 0)) from row_lat (heap_alloc_last w _) (below_new _ _))
  have RB := hide (show ((w.alloc (.cells #[.int .i64 1, .int .i64 (re : Int), .int .i64 X] 67)).alloc (.cells #[.int .i64 0, .int .i64 0] 97)).heap[w.heap.size + 1]? = some (.cells #[.int .i64 0, .int .i64 0] 97 (0, 0)) by have := heap_alloc_last (w.alloc (.cells #[.int .i64 1, .int .i64 (re : Int), .int .i64 X] 67)) (.cells #[.int .i64 0, .int .i64 0] 97); simpa using this)
  have GW := hide (show w.grownBy ((w.alloc (.cells #[.int .i64 1, .int .i64 (re : Int), .int .i64 X] 67)).alloc (.cells #[.int .i64 0, .int .i64 0] 97)) (some gr) from (World.grownBy_alloc w _ _).trans (World.grownBy_alloc _ _ _))
  unfold PlP
  clear bel P glt
  go_enter Tryz.func89, Tryz.ntmps89
  go_wp2_with fail
  generalize hbo : w.heap.size = bo at BX RB GN ⊢
  have HBO := hide hbo
  generalize hwb : (w.alloc (Obj.cells #[.int .i64 1, .int .i64 (re : Int), .int .i64 X] 67)).alloc (Obj.cells #[.int .i64 0, .int .i64 0] 97) = wb at PB BX RB GW ⊢
  clear hbo hwb
  refine (A wb (unhide PB)).mono ?_
  rintro e w2 ⟨rfl, p2, g2⟩
  have T_ := hide (row_past (unhide BX) g2 (unhide GN).1)
  clear BX
  have BX := hide (unhide T_)
  clear T_
  have T_ := hide (row_past (unhide RB) g2 (unhide GN).2)
  clear RB
  have RB := hide (unhide T_)
  clear T_
  have P2 := hide p2
  have G2 := hide ((unhide GW).trans g2)
  have b0 : w2.cell? ⟨bo, 0, none⟩ = some (.int .i64 1) := (cell_of_row _ _ 0 _ 67 _ (unhide BX)).trans rfl
  clear p2 g2 GW PB A GN
  go_wp2_with (refine wpList_store_row rfl 97 _ _ rfl (bo + 1) #[.int .i64 0, .int .i64 0] rfl rfl 97 #[.int .i64 0, .int .i64 0] (unhide RB) (by kernel_rfl) rfl (by simp [Value.oneCell']) ?_)
  refine bodyPost_ret (results_row2 (P := Tryz.prog) rfl _ _ (bo + 1) 97 #[.int .i64 0, .int .i64 0] (0, 0) _ rfl (setRow_heap _ _ _ _ 97 _ (unhide RB)) Tryz.underlying97 rfl (by kernel_rfl)) rfl ?_
  exact ⟨rfl, (unhide P2).setRow (w := w) (unhide GL) (unhide AT) (by have := unhide HBO; omega) _, grown_setRow (unhide G2) (by have := unhide HBO; omega) _⟩
set_option maxHeartbeats 4000000 in
theorem plY_1 (P : Pm w g B gr rc x d) (hs : x.small) (v : Int) (d2 : Md) (A : AtP g B gr rc re X x d 1 v true d2) : PlP g B gr rc re X x w 1 (-1) v true d2 := by
  have bel : Below w.heap.size w ((w.alloc (.cells #[.int .i64 1, .int .i64 (re : Int), .int .i64 X] 67)).alloc (.cells #[.int .i64 0, .int .i64 0] 97)) := ((Below.refl _ _).alloc (Nat.le_refl _) _).alloc (by simp) _
  have PB := hide (P.later bel)
  have GL := hide (row_lt P.row)
  have AT := hide (fun b (hb : x.at b) => own_at_lt P.own hb)
  have glt := own_rlt P.own P.er
  have GN := hide (And.intro (show gr ≠ w.heap.size by omega) (show gr ≠ w.heap.size + 1 by omega))
  have BX := hide (show ((w.alloc (.cells #[.int .i64 1, .int .i64 (re : Int), .int .i64 X] 67)).alloc (.cells #[.int .i64 0, .int .i64 0] 97)).heap[w.heap.size]? = some (.cells #[.int .i64 1, .int .i64 (re : Int), .int .i64 X] 67 (0, 0)) from row_lat (heap_alloc_last w _) (below_new _ _))
  have RB := hide (show ((w.alloc (.cells #[.int .i64 1, .int .i64 (re : Int), .int .i64 X] 67)).alloc (.cells #[.int .i64 0, .int .i64 0] 97)).heap[w.heap.size + 1]? = some (.cells #[.int .i64 0, .int .i64 0] 97 (0, 0)) by have := heap_alloc_last (w.alloc (.cells #[.int .i64 1, .int .i64 (re : Int), .int .i64 X] 67)) (.cells #[.int .i64 0, .int .i64 0] 97); simpa using this)
  have GW := hide (show w.grownBy ((w.alloc (.cells #[.int .i64 1, .int .i64 (re : Int), .int .i64 X] 67)).alloc (.cells #[.int .i64 0, .int .i64 0] 97)) (some gr) from (World.grownBy_alloc w _ _).trans (World.grownBy_alloc _ _ _))
  unfold PlP
  clear bel P glt
  go_enter Tryz.func89, Tryz.ntmps89
  go_wp2_with fail
  generalize hbo : w.heap.size = bo at BX RB GN ⊢
  have HBO := hide hbo
  generalize hwb : (w.alloc (Obj.cells #[.int .i64 1, .int .i64 (re : Int), .int .i64 X] 67)).alloc (Obj.cells #[.int .i64 0, .int .i64 0] 97) = wb at PB BX RB GW ⊢
  clear hbo hwb
  refine (A wb (unhide PB)).mono ?_
  rintro e w2 ⟨rfl, p2, g2⟩
  have T_ := hide (row_past (unhide BX) g2 (unhide GN).1)
  clear BX
  have BX := hide (unhide T_)
  clear T_
  have T_ := hide (row_past (unhide RB) g2 (unhide GN).2)
  clear RB
  have RB := hide (unhide T_)
  clear T_
  have P2 := hide p2
  have G2 := hide ((unhide GW).trans g2)
  have b0 : w2.cell? ⟨bo, 0, none⟩ = some (.int .i64 1) := (cell_of_row _ _ 0 _ 67 _ (unhide BX)).trans rfl
  clear p2 g2 GW PB A GN
  go_wp2_with (refine wpList_store_row rfl 97 _ _ rfl (bo + 1) #[.int .i64 (-1), .int .i64 v] rfl rfl 97 #[.int .i64 0, .int .i64 0] (unhide RB) (by kernel_rfl) rfl (by simp [Value.oneCell']) ?_)
  refine bodyPost_ret (results_row2 (P := Tryz.prog) rfl _ _ (bo + 1) 97 #[.int .i64 (-1), .int .i64 v] (0, 0) _ rfl (setRow_heap _ _ _ _ 97 _ (unhide RB)) Tryz.underlying97 rfl (by kernel_rfl)) rfl ?_
  exact ⟨rfl, (unhide P2).setRow (w := w) (unhide GL) (unhide AT) (by have := unhide HBO; omega) _, grown_setRow (unhide G2) (by have := unhide HBO; omega) _⟩
set_option maxHeartbeats 4000000 in
theorem plN_2 (P : Pm w g B gr rc x d) (hs : x.small) (v : Int) (d2 : Md) (A : AtP g B gr rc re X x d 2 v false d2) : PlP g B gr rc re X x w 2 0 0 false d2 := by
  have bel : Below w.heap.size w ((w.alloc (.cells #[.int .i64 2, .int .i64 (re : Int), .int .i64 X] 67)).alloc (.cells #[.int .i64 0, .int .i64 0] 97)) := ((Below.refl _ _).alloc (Nat.le_refl _) _).alloc (by simp) _
  have PB := hide (P.later bel)
  have GL := hide (row_lt P.row)
  have AT := hide (fun b (hb : x.at b) => own_at_lt P.own hb)
  have glt := own_rlt P.own P.er
  have GN := hide (And.intro (show gr ≠ w.heap.size by omega) (show gr ≠ w.heap.size + 1 by omega))
  have BX := hide (show ((w.alloc (.cells #[.int .i64 2, .int .i64 (re : Int), .int .i64 X] 67)).alloc (.cells #[.int .i64 0, .int .i64 0] 97)).heap[w.heap.size]? = some (.cells #[.int .i64 2, .int .i64 (re : Int), .int .i64 X] 67 (0, 0)) from row_lat (heap_alloc_last w _) (below_new _ _))
  have RB := hide (show ((w.alloc (.cells #[.int .i64 2, .int .i64 (re : Int), .int .i64 X] 67)).alloc (.cells #[.int .i64 0, .int .i64 0] 97)).heap[w.heap.size + 1]? = some (.cells #[.int .i64 0, .int .i64 0] 97 (0, 0)) by have := heap_alloc_last (w.alloc (.cells #[.int .i64 2, .int .i64 (re : Int), .int .i64 X] 67)) (.cells #[.int .i64 0, .int .i64 0] 97); simpa using this)
  have GW := hide (show w.grownBy ((w.alloc (.cells #[.int .i64 2, .int .i64 (re : Int), .int .i64 X] 67)).alloc (.cells #[.int .i64 0, .int .i64 0] 97)) (some gr) from (World.grownBy_alloc w _ _).trans (World.grownBy_alloc _ _ _))
  unfold PlP
  clear bel P glt
  go_enter Tryz.func89, Tryz.ntmps89
  go_wp2_with fail
  generalize hbo : w.heap.size = bo at BX RB GN ⊢
  have HBO := hide hbo
  generalize hwb : (w.alloc (Obj.cells #[.int .i64 2, .int .i64 (re : Int), .int .i64 X] 67)).alloc (Obj.cells #[.int .i64 0, .int .i64 0] 97) = wb at PB BX RB GW ⊢
  clear hbo hwb
  refine (A wb (unhide PB)).mono ?_
  rintro e w2 ⟨rfl, p2, g2⟩
  have T_ := hide (row_past (unhide BX) g2 (unhide GN).1)
  clear BX
  have BX := hide (unhide T_)
  clear T_
  have T_ := hide (row_past (unhide RB) g2 (unhide GN).2)
  clear RB
  have RB := hide (unhide T_)
  clear T_
  have P2 := hide p2
  have G2 := hide ((unhide GW).trans g2)
  have b0 : w2.cell? ⟨bo, 0, none⟩ = some (.int .i64 2) := (cell_of_row _ _ 0 _ 67 _ (unhide BX)).trans rfl
  clear p2 g2 GW PB A GN
  go_wp2_with (refine wpList_store_row rfl 97 _ _ rfl (bo + 1) #[.int .i64 0, .int .i64 0] rfl rfl 97 #[.int .i64 0, .int .i64 0] (unhide RB) (by kernel_rfl) rfl (by simp [Value.oneCell']) ?_)
  refine bodyPost_ret (results_row2 (P := Tryz.prog) rfl _ _ (bo + 1) 97 #[.int .i64 0, .int .i64 0] (0, 0) _ rfl (setRow_heap _ _ _ _ 97 _ (unhide RB)) Tryz.underlying97 rfl (by kernel_rfl)) rfl ?_
  exact ⟨rfl, (unhide P2).setRow (w := w) (unhide GL) (unhide AT) (by have := unhide HBO; omega) _, grown_setRow (unhide G2) (by have := unhide HBO; omega) _⟩
set_option maxHeartbeats 4000000 in
theorem plY_2 (P : Pm w g B gr rc x d) (hs : x.small) (v : Int) (d2 : Md) (A : AtP g B gr rc re X x d 2 v true d2) : PlP g B gr rc re X x w 2 (-1) v true d2 := by
  have bel : Below w.heap.size w ((w.alloc (.cells #[.int .i64 2, .int .i64 (re : Int), .int .i64 X] 67)).alloc (.cells #[.int .i64 0, .int .i64 0] 97)) := ((Below.refl _ _).alloc (Nat.le_refl _) _).alloc (by simp) _
  have PB := hide (P.later bel)
  have GL := hide (row_lt P.row)
  have AT := hide (fun b (hb : x.at b) => own_at_lt P.own hb)
  have glt := own_rlt P.own P.er
  have GN := hide (And.intro (show gr ≠ w.heap.size by omega) (show gr ≠ w.heap.size + 1 by omega))
  have BX := hide (show ((w.alloc (.cells #[.int .i64 2, .int .i64 (re : Int), .int .i64 X] 67)).alloc (.cells #[.int .i64 0, .int .i64 0] 97)).heap[w.heap.size]? = some (.cells #[.int .i64 2, .int .i64 (re : Int), .int .i64 X] 67 (0, 0)) from row_lat (heap_alloc_last w _) (below_new _ _))
  have RB := hide (show ((w.alloc (.cells #[.int .i64 2, .int .i64 (re : Int), .int .i64 X] 67)).alloc (.cells #[.int .i64 0, .int .i64 0] 97)).heap[w.heap.size + 1]? = some (.cells #[.int .i64 0, .int .i64 0] 97 (0, 0)) by have := heap_alloc_last (w.alloc (.cells #[.int .i64 2, .int .i64 (re : Int), .int .i64 X] 67)) (.cells #[.int .i64 0, .int .i64 0] 97); simpa using this)
  have GW := hide (show w.grownBy ((w.alloc (.cells #[.int .i64 2, .int .i64 (re : Int), .int .i64 X] 67)).alloc (.cells #[.int .i64 0, .int .i64 0] 97)) (some gr) from (World.grownBy_alloc w _ _).trans (World.grownBy_alloc _ _ _))
  unfold PlP
  clear bel P glt
  go_enter Tryz.func89, Tryz.ntmps89
  go_wp2_with fail
  generalize hbo : w.heap.size = bo at BX RB GN ⊢
  have HBO := hide hbo
  generalize hwb : (w.alloc (Obj.cells #[.int .i64 2, .int .i64 (re : Int), .int .i64 X] 67)).alloc (Obj.cells #[.int .i64 0, .int .i64 0] 97) = wb at PB BX RB GW ⊢
  clear hbo hwb
  refine (A wb (unhide PB)).mono ?_
  rintro e w2 ⟨rfl, p2, g2⟩
  have T_ := hide (row_past (unhide BX) g2 (unhide GN).1)
  clear BX
  have BX := hide (unhide T_)
  clear T_
  have T_ := hide (row_past (unhide RB) g2 (unhide GN).2)
  clear RB
  have RB := hide (unhide T_)
  clear T_
  have P2 := hide p2
  have G2 := hide ((unhide GW).trans g2)
  have b0 : w2.cell? ⟨bo, 0, none⟩ = some (.int .i64 2) := (cell_of_row _ _ 0 _ 67 _ (unhide BX)).trans rfl
  clear p2 g2 GW PB A GN
  go_wp2_with (refine wpList_store_row rfl 97 _ _ rfl (bo + 1) #[.int .i64 (-1), .int .i64 v] rfl rfl 97 #[.int .i64 0, .int .i64 0] (unhide RB) (by kernel_rfl) rfl (by simp [Value.oneCell']) ?_)
  refine bodyPost_ret (results_row2 (P := Tryz.prog) rfl _ _ (bo + 1) 97 #[.int .i64 (-1), .int .i64 v] (0, 0) _ rfl (setRow_heap _ _ _ _ 97 _ (unhide RB)) Tryz.underlying97 rfl (by kernel_rfl)) rfl ?_
  exact ⟨rfl, (unhide P2).setRow (w := w) (unhide GL) (unhide AT) (by have := unhide HBO; omega) _, grown_setRow (unhide G2) (by have := unhide HBO; omega) _⟩
set_option maxHeartbeats 4000000 in
theorem plN_3 (P : Pm w g B gr rc x d) (hs : x.small) (v : Int) (d2 : Md) (A : AtP g B gr rc re X x d 3 v false d2) : PlP g B gr rc re X x w 3 0 0 false d2 := by
  have bel : Below w.heap.size w ((w.alloc (.cells #[.int .i64 3, .int .i64 (re : Int), .int .i64 X] 67)).alloc (.cells #[.int .i64 0, .int .i64 0] 97)) := ((Below.refl _ _).alloc (Nat.le_refl _) _).alloc (by simp) _
  have PB := hide (P.later bel)
  have GL := hide (row_lt P.row)
  have AT := hide (fun b (hb : x.at b) => own_at_lt P.own hb)
  have glt := own_rlt P.own P.er
  have GN := hide (And.intro (show gr ≠ w.heap.size by omega) (show gr ≠ w.heap.size + 1 by omega))
  have BX := hide (show ((w.alloc (.cells #[.int .i64 3, .int .i64 (re : Int), .int .i64 X] 67)).alloc (.cells #[.int .i64 0, .int .i64 0] 97)).heap[w.heap.size]? = some (.cells #[.int .i64 3, .int .i64 (re : Int), .int .i64 X] 67 (0, 0)) from row_lat (heap_alloc_last w _) (below_new _ _))
  have RB := hide (show ((w.alloc (.cells #[.int .i64 3, .int .i64 (re : Int), .int .i64 X] 67)).alloc (.cells #[.int .i64 0, .int .i64 0] 97)).heap[w.heap.size + 1]? = some (.cells #[.int .i64 0, .int .i64 0] 97 (0, 0)) by have := heap_alloc_last (w.alloc (.cells #[.int .i64 3, .int .i64 (re : Int), .int .i64 X] 67)) (.cells #[.int .i64 0, .int .i64 0] 97); simpa using this)
  have GW := hide (show w.grownBy ((w.alloc (.cells #[.int .i64 3, .int .i64 (re : Int), .int .i64 X] 67)).alloc (.cells #[.int .i64 0, .int .i64 0] 97)) (some gr) from (World.grownBy_alloc w _ _).trans (World.grownBy_alloc _ _ _))
  unfold PlP
  clear bel P glt
  go_enter Tryz.func89, Tryz.ntmps89
  go_wp2_with fail
  generalize hbo : w.heap.size = bo at BX RB GN ⊢
  have HBO := hide hbo
  generalize hwb : (w.alloc (Obj.cells #[.int .i64 3, .int .i64 (re : Int), .int .i64 X] 67)).alloc (Obj.cells #[.int .i64 0, .int .i64 0] 97) = wb at PB BX RB GW ⊢
  clear hbo hwb
  refine (A wb (unhide PB)).mono ?_
  rintro e w2 ⟨rfl, p2, g2⟩
  have T_ := hide (row_past (unhide BX) g2 (unhide GN).1)
  clear BX
  have BX := hide (unhide T_)
  clear T_
  have T_ := hide (row_past (unhide RB) g2 (unhide GN).2)
  clear RB
  have RB := hide (unhide T_)
  clear T_
  have P2 := hide p2
  have G2 := hide ((unhide GW).trans g2)
  have b0 : w2.cell? ⟨bo, 0, none⟩ = some (.int .i64 3) := (cell_of_row _ _ 0 _ 67 _ (unhide BX)).trans rfl
  clear p2 g2 GW PB A GN
  go_wp2_with (refine wpList_store_row rfl 97 _ _ rfl (bo + 1) #[.int .i64 0, .int .i64 0] rfl rfl 97 #[.int .i64 0, .int .i64 0] (unhide RB) (by kernel_rfl) rfl (by simp [Value.oneCell']) ?_)
  refine bodyPost_ret (results_row2 (P := Tryz.prog) rfl _ _ (bo + 1) 97 #[.int .i64 0, .int .i64 0] (0, 0) _ rfl (setRow_heap _ _ _ _ 97 _ (unhide RB)) Tryz.underlying97 rfl (by kernel_rfl)) rfl ?_
  exact ⟨rfl, (unhide P2).setRow (w := w) (unhide GL) (unhide AT) (by have := unhide HBO; omega) _, grown_setRow (unhide G2) (by have := unhide HBO; omega) _⟩
set_option maxHeartbeats 4000000 in
theorem plM_3 (P : Pm w g B gr rc x d) (hs : x.small) (v : Int) (d2 : Md) (u : Int) (hq : d2.has v = false) (hu : d2.get v = u) (A : AtP g B gr rc re X x d 3 v true d2) : PlP g B gr rc re X x w 3 0 0 false d2 := by
  have bel : Below w.heap.size w ((w.alloc (.cells #[.int .i64 3, .int .i64 (re : Int), .int .i64 X] 67)).alloc (.cells #[.int .i64 0, .int .i64 0] 97)) := ((Below.refl _ _).alloc (Nat.le_refl _) _).alloc (by simp) _
  have PB := hide (P.later bel)
  have GL := hide (row_lt P.row)
  have AT := hide (fun b (hb : x.at b) => own_at_lt P.own hb)
  have glt := own_rlt P.own P.er
  have GN := hide (And.intro (show gr ≠ w.heap.size by omega) (show gr ≠ w.heap.size + 1 by omega))
  have BX := hide (show ((w.alloc (.cells #[.int .i64 3, .int .i64 (re : Int), .int .i64 X] 67)).alloc (.cells #[.int .i64 0, .int .i64 0] 97)).heap[w.heap.size]? = some (.cells #[.int .i64 3, .int .i64 (re : Int), .int .i64 X] 67 (0, 0)) from row_lat (heap_alloc_last w _) (below_new _ _))
  have RB := hide (show ((w.alloc (.cells #[.int .i64 3, .int .i64 (re : Int), .int .i64 X] 67)).alloc (.cells #[.int .i64 0, .int .i64 0] 97)).heap[w.heap.size + 1]? = some (.cells #[.int .i64 0, .int .i64 0] 97 (0, 0)) by have := heap_alloc_last (w.alloc (.cells #[.int .i64 3, .int .i64 (re : Int), .int .i64 X] 67)) (.cells #[.int .i64 0, .int .i64 0] 97); simpa using this)
  have GW := hide (show w.grownBy ((w.alloc (.cells #[.int .i64 3, .int .i64 (re : Int), .int .i64 X] 67)).alloc (.cells #[.int .i64 0, .int .i64 0] 97)) (some gr) from (World.grownBy_alloc w _ _).trans (World.grownBy_alloc _ _ _))
  unfold PlP
  clear bel P glt
  go_enter Tryz.func89, Tryz.ntmps89
  go_wp2_with fail
  generalize hbo : w.heap.size = bo at BX RB GN ⊢
  have HBO := hide hbo
  generalize hwb : (w.alloc (Obj.cells #[.int .i64 3, .int .i64 (re : Int), .int .i64 X] 67)).alloc (Obj.cells #[.int .i64 0, .int .i64 0] 97) = wb at PB BX RB GW ⊢
  clear hbo hwb
  refine (A wb (unhide PB)).mono ?_
  rintro e w2 ⟨rfl, p2, g2⟩
  have T_ := hide (row_past (unhide BX) g2 (unhide GN).1)
  clear BX
  have BX := hide (unhide T_)
  clear T_
  have T_ := hide (row_past (unhide RB) g2 (unhide GN).2)
  clear RB
  have RB := hide (unhide T_)
  clear T_
  have P2 := hide p2
  have G2 := hide ((unhide GW).trans g2)
  have b0 : w2.cell? ⟨bo, 0, none⟩ = some (.int .i64 3) := (cell_of_row _ _ 0 _ 67 _ (unhide BX)).trans rfl
  clear p2 g2 GW PB A GN
  have R := hide (readS_any x d2 v w2 hs (unhide P2).own.rd)
  rw [hq, hu] at R
  go_wp2_with (refine wpList_load_row rfl 26 _ rfl g rfl 26 x.cs (0, 0) _ (unhide P2).row Tryz.underlying26 rfl (by kernel_rfl) ?_)
  refine (unhide R).mono ?_
  rintro e w3 ⟨rfl, hb⟩
  have P3 := hide ((unhide P2).later hb)
  have G3 := hide ((unhide G2).trans ⟨hb.os, hb.tape, hb.output, hb.size, fun k hk _ => hb.block k hk⟩)
  have T_ := hide (row_lat (unhide RB) hb)
  clear RB
  have RB := hide (unhide T_)
  clear T_ hb R P2 G2 b0 hq hu
  go_wp2_with (refine wpList_store_row rfl 97 _ _ rfl (bo + 1) #[.int .i64 0, .int .i64 0] rfl rfl 97 #[.int .i64 0, .int .i64 0] (unhide RB) (by kernel_rfl) rfl (by simp [Value.oneCell']) ?_)
  refine bodyPost_ret (results_row2 (P := Tryz.prog) rfl _ _ (bo + 1) 97 #[.int .i64 0, .int .i64 0] (0, 0) _ rfl (setRow_heap _ _ _ _ 97 _ (unhide RB)) Tryz.underlying97 rfl (by kernel_rfl)) rfl ?_
  exact ⟨rfl, (unhide P3).setRow (w := w) (unhide GL) (unhide AT) (by have := unhide HBO; omega) _, grown_setRow (unhide G3) (by have := unhide HBO; omega) _⟩
set_option maxHeartbeats 4000000 in
theorem plY_3 (P : Pm w g B gr rc x d) (hs : x.small) (v : Int) (d2 : Md) (u : Int) (hq : d2.has v = true) (hu : d2.get v = u) (A : AtP g B gr rc re X x d 3 v true d2) : PlP g B gr rc re X x w 3 (-1) u true d2 := by
  have bel : Below w.heap.size w ((w.alloc (.cells #[.int .i64 3, .int .i64 (re : Int), .int .i64 X] 67)).alloc (.cells #[.int .i64 0, .int .i64 0] 97)) := ((Below.refl _ _).alloc (Nat.le_refl _) _).alloc (by simp) _
  have PB := hide (P.later bel)
  have GL := hide (row_lt P.row)
  have AT := hide (fun b (hb : x.at b) => own_at_lt P.own hb)
  have glt := own_rlt P.own P.er
  have GN := hide (And.intro (show gr ≠ w.heap.size by omega) (show gr ≠ w.heap.size + 1 by omega))
  have BX := hide (show ((w.alloc (.cells #[.int .i64 3, .int .i64 (re : Int), .int .i64 X] 67)).alloc (.cells #[.int .i64 0, .int .i64 0] 97)).heap[w.heap.size]? = some (.cells #[.int .i64 3, .int .i64 (re : Int), .int .i64 X] 67 (0, 0)) from row_lat (heap_alloc_last w _) (below_new _ _))
  have RB := hide (show ((w.alloc (.cells #[.int .i64 3, .int .i64 (re : Int), .int .i64 X] 67)).alloc (.cells #[.int .i64 0, .int .i64 0] 97)).heap[w.heap.size + 1]? = some (.cells #[.int .i64 0, .int .i64 0] 97 (0, 0)) by have := heap_alloc_last (w.alloc (.cells #[.int .i64 3, .int .i64 (re : Int), .int .i64 X] 67)) (.cells #[.int .i64 0, .int .i64 0] 97); simpa using this)
  have GW := hide (show w.grownBy ((w.alloc (.cells #[.int .i64 3, .int .i64 (re : Int), .int .i64 X] 67)).alloc (.cells #[.int .i64 0, .int .i64 0] 97)) (some gr) from (World.grownBy_alloc w _ _).trans (World.grownBy_alloc _ _ _))
  unfold PlP
  clear bel P glt
  go_enter Tryz.func89, Tryz.ntmps89
  go_wp2_with fail
  generalize hbo : w.heap.size = bo at BX RB GN ⊢
  have HBO := hide hbo
  generalize hwb : (w.alloc (Obj.cells #[.int .i64 3, .int .i64 (re : Int), .int .i64 X] 67)).alloc (Obj.cells #[.int .i64 0, .int .i64 0] 97) = wb at PB BX RB GW ⊢
  clear hbo hwb
  refine (A wb (unhide PB)).mono ?_
  rintro e w2 ⟨rfl, p2, g2⟩
  have T_ := hide (row_past (unhide BX) g2 (unhide GN).1)
  clear BX
  have BX := hide (unhide T_)
  clear T_
  have T_ := hide (row_past (unhide RB) g2 (unhide GN).2)
  clear RB
  have RB := hide (unhide T_)
  clear T_
  have P2 := hide p2
  have G2 := hide ((unhide GW).trans g2)
  have b0 : w2.cell? ⟨bo, 0, none⟩ = some (.int .i64 3) := (cell_of_row _ _ 0 _ 67 _ (unhide BX)).trans rfl
  clear p2 g2 GW PB A GN
  have R := hide (readS_any x d2 v w2 hs (unhide P2).own.rd)
  rw [hq, hu] at R
  go_wp2_with (refine wpList_load_row rfl 26 _ rfl g rfl 26 x.cs (0, 0) _ (unhide P2).row Tryz.underlying26 rfl (by kernel_rfl) ?_)
  refine (unhide R).mono ?_
  rintro e w3 ⟨rfl, hb⟩
  have P3 := hide ((unhide P2).later hb)
  have G3 := hide ((unhide G2).trans ⟨hb.os, hb.tape, hb.output, hb.size, fun k hk _ => hb.block k hk⟩)
  have T_ := hide (row_lat (unhide RB) hb)
  clear RB
  have RB := hide (unhide T_)
  clear T_ hb R P2 G2 b0 hq hu
  go_wp2_with (refine wpList_store_row rfl 97 _ _ rfl (bo + 1) #[.int .i64 (-1), .int .i64 u] rfl rfl 97 #[.int .i64 0, .int .i64 0] (unhide RB) (by kernel_rfl) rfl (by simp [Value.oneCell']) ?_)
  refine bodyPost_ret (results_row2 (P := Tryz.prog) rfl _ _ (bo + 1) 97 #[.int .i64 (-1), .int .i64 u] (0, 0) _ rfl (setRow_heap _ _ _ _ 97 _ (unhide RB)) Tryz.underlying97 rfl (by kernel_rfl)) rfl ?_
  exact ⟨rfl, (unhide P3).setRow (w := w) (unhide GL) (unhide AT) (by have := unhide HBO; omega) _, grown_setRow (unhide G3) (by have := unhide HBO; omega) _⟩
set_option maxHeartbeats 4000000 in
theorem plN_4 (P : Pm w g B gr rc x d) (hs : x.small) (v : Int) (d2 : Md) (A : AtP g B gr rc re X x d 4 v false d2) : PlP g B gr rc re X x w 4 0 0 false d2 := by
  have bel : Below w.heap.size w ((w.alloc (.cells #[.int .i64 4, .int .i64 (re : Int), .int .i64 X] 67)).alloc (.cells #[.int .i64 0, .int .i64 0] 97)) := ((Below.refl _ _).alloc (Nat.le_refl _) _).alloc (by simp) _
  have PB := hide (P.later bel)
  have GL := hide (row_lt P.row)
  have AT := hide (fun b (hb : x.at b) => own_at_lt P.own hb)
  have glt := own_rlt P.own P.er
  have GN := hide (And.intro (show gr ≠ w.heap.size by omega) (show gr ≠ w.heap.size + 1 by omega))
  have BX := hide (show ((w.alloc (.cells #[.int .i64 4, .int .i64 (re : Int), .int .i64 X] 67)).alloc (.cells #[.int .i64 0, .int .i64 0] 97)).heap[w.heap.size]? = some (.cells #[.int .i64 4, .int .i64 (re : Int), .int .i64 X] 67 (0, 0)) from row_lat (heap_alloc_last w _) (below_new _ _))
  have RB := hide (show ((w.alloc (.cells #[.int .i64 4, .int .i64 (re : Int), .int .i64 X] 67)).alloc (.cells #[.int .i64 0, .int .i64 0] 97)).heap[w.heap.size + 1]? = some (.cells #[.int .i64 0, .int .i64 0] 97 (0, 0)) by have := heap_alloc_last (w.alloc (.cells #[.int .i64 4, .int .i64 (re : Int), .int .i64 X] 67)) (.cells #[.int .i64 0, .int .i64 0] 97); simpa using this)
  have GW := hide (show w.grownBy ((w.alloc (.cells #[.int .i64 4, .int .i64 (re : Int), .int .i64 X] 67)).alloc (.cells #[.int .i64 0, .int .i64 0] 97)) (some gr) from (World.grownBy_alloc w _ _).trans (World.grownBy_alloc _ _ _))
  unfold PlP
  clear bel P glt
  go_enter Tryz.func89, Tryz.ntmps89
  go_wp2_with fail
  generalize hbo : w.heap.size = bo at BX RB GN ⊢
  have HBO := hide hbo
  generalize hwb : (w.alloc (Obj.cells #[.int .i64 4, .int .i64 (re : Int), .int .i64 X] 67)).alloc (Obj.cells #[.int .i64 0, .int .i64 0] 97) = wb at PB BX RB GW ⊢
  clear hbo hwb
  refine (A wb (unhide PB)).mono ?_
  rintro e w2 ⟨rfl, p2, g2⟩
  have T_ := hide (row_past (unhide BX) g2 (unhide GN).1)
  clear BX
  have BX := hide (unhide T_)
  clear T_
  have T_ := hide (row_past (unhide RB) g2 (unhide GN).2)
  clear RB
  have RB := hide (unhide T_)
  clear T_
  have P2 := hide p2
  have G2 := hide ((unhide GW).trans g2)
  have b0 : w2.cell? ⟨bo, 0, none⟩ = some (.int .i64 4) := (cell_of_row _ _ 0 _ 67 _ (unhide BX)).trans rfl
  clear p2 g2 GW PB A GN
  go_wp2_with (refine wpList_store_row rfl 97 _ _ rfl (bo + 1) #[.int .i64 0, .int .i64 0] rfl rfl 97 #[.int .i64 0, .int .i64 0] (unhide RB) (by kernel_rfl) rfl (by simp [Value.oneCell']) ?_)
  refine bodyPost_ret (results_row2 (P := Tryz.prog) rfl _ _ (bo + 1) 97 #[.int .i64 0, .int .i64 0] (0, 0) _ rfl (setRow_heap _ _ _ _ 97 _ (unhide RB)) Tryz.underlying97 rfl (by kernel_rfl)) rfl ?_
  exact ⟨rfl, (unhide P2).setRow (w := w) (unhide GL) (unhide AT) (by have := unhide HBO; omega) _, grown_setRow (unhide G2) (by have := unhide HBO; omega) _⟩
set_option maxHeartbeats 4000000 in
theorem plY_4 (P : Pm w g B gr rc x d) (hs : x.small) (v : Int) (d2 : Md) (A : AtP g B gr rc re X x d 4 v true d2) : PlP g B gr rc re X x w 4 (-1) v true d2 := by
  have bel : Below w.heap.size w ((w.alloc (.cells #[.int .i64 4, .int .i64 (re : Int), .int .i64 X] 67)).alloc (.cells #[.int .i64 0, .int .i64 0] 97)) := ((Below.refl _ _).alloc (Nat.le_refl _) _).alloc (by simp) _
  have PB := hide (P.later bel)
  have GL := hide (row_lt P.row)
  have AT := hide (fun b (hb : x.at b) => own_at_lt P.own hb)
  have glt := own_rlt P.own P.er
  have GN := hide (And.intro (show gr ≠ w.heap.size by omega) (show gr ≠ w.heap.size + 1 by omega))
  have BX := hide (show ((w.alloc (.cells #[.int .i64 4, .int .i64 (re : Int), .int .i64 X] 67)).alloc (.cells #[.int .i64 0, .int .i64 0] 97)).heap[w.heap.size]? = some (.cells #[.int .i64 4, .int .i64 (re : Int), .int .i64 X] 67 (0, 0)) from row_lat (heap_alloc_last w _) (below_new _ _))
  have RB := hide (show ((w.alloc (.cells #[.int .i64 4, .int .i64 (re : Int), .int .i64 X] 67)).alloc (.cells #[.int .i64 0, .int .i64 0] 97)).heap[w.heap.size + 1]? = some (.cells #[.int .i64 0, .int .i64 0] 97 (0, 0)) by have := heap_alloc_last (w.alloc (.cells #[.int .i64 4, .int .i64 (re : Int), .int .i64 X] 67)) (.cells #[.int .i64 0, .int .i64 0] 97); simpa using this)
  have GW := hide (show w.grownBy ((w.alloc (.cells #[.int .i64 4, .int .i64 (re : Int), .int .i64 X] 67)).alloc (.cells #[.int .i64 0, .int .i64 0] 97)) (some gr) from (World.grownBy_alloc w _ _).trans (World.grownBy_alloc _ _ _))
  unfold PlP
  clear bel P glt
  go_enter Tryz.func89, Tryz.ntmps89
  go_wp2_with fail
  generalize hbo : w.heap.size = bo at BX RB GN ⊢
  have HBO := hide hbo
  generalize hwb : (w.alloc (Obj.cells #[.int .i64 4, .int .i64 (re : Int), .int .i64 X] 67)).alloc (Obj.cells #[.int .i64 0, .int .i64 0] 97) = wb at PB BX RB GW ⊢
  clear hbo hwb
  refine (A wb (unhide PB)).mono ?_
  rintro e w2 ⟨rfl, p2, g2⟩
  have T_ := hide (row_past (unhide BX) g2 (unhide GN).1)
  clear BX
  have BX := hide (unhide T_)
  clear T_
  have T_ := hide (row_past (unhide RB) g2 (unhide GN).2)
  clear RB
  have RB := hide (unhide T_)
  clear T_
  have P2 := hide p2
  have G2 := hide ((unhide GW).trans g2)
  have b0 : w2.cell? ⟨bo, 0, none⟩ = some (.int .i64 4) := (cell_of_row _ _ 0 _ 67 _ (unhide BX)).trans rfl
  clear p2 g2 GW PB A GN
  go_wp2_with (refine wpList_store_row rfl 97 _ _ rfl (bo + 1) #[.int .i64 (-1), .int .i64 v] rfl rfl 97 #[.int .i64 0, .int .i64 0] (unhide RB) (by kernel_rfl) rfl (by simp [Value.oneCell']) ?_)
  refine bodyPost_ret (results_row2 (P := Tryz.prog) rfl _ _ (bo + 1) 97 #[.int .i64 (-1), .int .i64 v] (0, 0) _ rfl (setRow_heap _ _ _ _ 97 _ (unhide RB)) Tryz.underlying97 rfl (by kernel_rfl)) rfl ?_
  exact ⟨rfl, (unhide P2).setRow (w := w) (unhide GL) (unhide AT) (by have := unhide HBO; omega) _, grown_setRow (unhide G2) (by have := unhide HBO; omega) _⟩
set_option maxHeartbeats 4000000 in
theorem plN_5 (P : Pm w g B gr rc x d) (hs : x.small) (v : Int) (d2 : Md) (A : AtP g B gr rc re X x d 5 v false d2) : PlP g B gr rc re X x w 5 0 0 false d2 := by
  have bel : Below w.heap.size w ((w.alloc (.cells #[.int .i64 5, .int .i64 (re : Int), .int .i64 X] 67)).alloc (.cells #[.int .i64 0, .int .i64 0] 97)) := ((Below.refl _ _).alloc (Nat.le_refl _) _).alloc (by simp) _
  have PB := hide (P.later bel)
  have GL := hide (row_lt P.row)
  have AT := hide (fun b (hb : x.at b) => own_at_lt P.own hb)
  have glt := own_rlt P.own P.er
  have GN := hide (And.intro (show gr ≠ w.heap.size by omega) (show gr ≠ w.heap.size + 1 by omega))
  have BX := hide (show ((w.alloc (.cells #[.int .i64 5, .int .i64 (re : Int), .int .i64 X] 67)).alloc (.cells #[.int .i64 0, .int .i64 0] 97)).heap[w.heap.size]? = some (.cells #[.int .i64 5, .int .i64 (re : Int), .int .i64 X] 67 (0, 0)) from row_lat (heap_alloc_last w _) (below_new _ _))
  have RB := hide (show ((w.alloc (.cells #[.int .i64 5, .int .i64 (re : Int), .int .i64 X] 67)).alloc (.cells #[.int .i64 0, .int .i64 0] 97)).heap[w.heap.size + 1]? = some (.cells #[.int .i64 0, .int .i64 0] 97 (0, 0)) by have := heap_alloc_last (w.alloc (.cells #[.int .i64 5, .int .i64 (re : Int), .int .i64 X] 67)) (.cells #[.int .i64 0, .int .i64 0] 97); simpa using this)
  have GW := hide (show w.grownBy ((w.alloc (.cells #[.int .i64 5, .int .i64 (re : Int), .int .i64 X] 67)).alloc (.cells #[.int .i64 0, .int .i64 0] 97)) (some gr) from (World.grownBy_alloc w _ _).trans (World.grownBy_alloc _ _ _))
  unfold PlP
  clear bel P glt
  go_enter Tryz.func89, Tryz.ntmps89
  go_wp2_with fail
  generalize hbo : w.heap.size = bo at BX RB GN ⊢
  have HBO := hide hbo
  generalize hwb : (w.alloc (Obj.cells #[.int .i64 5, .int .i64 (re : Int), .int .i64 X] 67)).alloc (Obj.cells #[.int .i64 0, .int .i64 0] 97) = wb at PB BX RB GW ⊢
  clear hbo hwb
  refine (A wb (unhide PB)).mono ?_
  rintro e w2 ⟨rfl, p2, g2⟩
  have T_ := hide (row_past (unhide BX) g2 (unhide GN).1)
  clear BX
  have BX := hide (unhide T_)
  clear T_
  have T_ := hide (row_past (unhide RB) g2 (unhide GN).2)
  clear RB
  have RB := hide (unhide T_)
  clear T_
  have P2 := hide p2
  have G2 := hide ((unhide GW).trans g2)
  have b0 : w2.cell? ⟨bo, 0, none⟩ = some (.int .i64 5) := (cell_of_row _ _ 0 _ 67 _ (unhide BX)).trans rfl
  clear p2 g2 GW PB A GN
  go_wp2_with (refine wpList_store_row rfl 97 _ _ rfl (bo + 1) #[.int .i64 0, .int .i64 0] rfl rfl 97 #[.int .i64 0, .int .i64 0] (unhide RB) (by kernel_rfl) rfl (by simp [Value.oneCell']) ?_)
  refine bodyPost_ret (results_row2 (P := Tryz.prog) rfl _ _ (bo + 1) 97 #[.int .i64 0, .int .i64 0] (0, 0) _ rfl (setRow_heap _ _ _ _ 97 _ (unhide RB)) Tryz.underlying97 rfl (by kernel_rfl)) rfl ?_
  exact ⟨rfl, (unhide P2).setRow (w := w) (unhide GL) (unhide AT) (by have := unhide HBO; omega) _, grown_setRow (unhide G2) (by have := unhide HBO; omega) _⟩
set_option maxHeartbeats 4000000 in
theorem plM_5 (P : Pm w g B gr rc x d) (hs : x.small) (v : Int) (d2 : Md) (u : Int) (hq : d2.has v = false) (hu : d2.get v = u) (A : AtP g B gr rc re X x d 5 v true d2) : PlP g B gr rc re X x w 5 0 0 false d2 := by
  have bel : Below w.heap.size w ((w.alloc (.cells #[.int .i64 5, .int .i64 (re : Int), .int .i64 X] 67)).alloc (.cells #[.int .i64 0, .int .i64 0] 97)) := ((Below.refl _ _).alloc (Nat.le_refl _) _).alloc (by simp) _
  have PB := hide (P.later bel)
  have GL := hide (row_lt P.row)
  have AT := hide (fun b (hb : x.at b) => own_at_lt P.own hb)
  have glt := own_rlt P.own P.er
  have GN := hide (And.intro (show gr ≠ w.heap.size by omega) (show gr ≠ w.heap.size + 1 by omega))
  have BX := hide (show ((w.alloc (.cells #[.int .i64 5, .int .i64 (re : Int), .int .i64 X] 67)).alloc (.cells #[.int .i64 0, .int .i64 0] 97)).heap[w.heap.size]? = some (.cells #[.int .i64 5, .int .i64 (re : Int), .int .i64 X] 67 (0, 0)) from row_lat (heap_alloc_last w _) (below_new _ _))
  have RB := hide (show ((w.alloc (.cells #[.int .i64 5, .int .i64 (re : Int), .int .i64 X] 67)).alloc (.cells #[.int .i64 0, .int .i64 0] 97)).heap[w.heap.size + 1]? = some (.cells #[.int .i64 0, .int .i64 0] 97 (0, 0)) by have := heap_alloc_last (w.alloc (.cells #[.int .i64 5, .int .i64 (re : Int), .int .i64 X] 67)) (.cells #[.int .i64 0, .int .i64 0] 97); simpa using this)
  have GW := hide (show w.grownBy ((w.alloc (.cells #[.int .i64 5, .int .i64 (re : Int), .int .i64 X] 67)).alloc (.cells #[.int .i64 0, .int .i64 0] 97)) (some gr) from (World.grownBy_alloc w _ _).trans (World.grownBy_alloc _ _ _))
  unfold PlP
  clear bel P glt
  go_enter Tryz.func89, Tryz.ntmps89
  go_wp2_with fail
  generalize hbo : w.heap.size = bo at BX RB GN ⊢
  have HBO := hide hbo
  generalize hwb : (w.alloc (Obj.cells #[.int .i64 5, .int .i64 (re : Int), .int .i64 X] 67)).alloc (Obj.cells #[.int .i64 0, .int .i64 0] 97) = wb at PB BX RB GW ⊢
  clear hbo hwb
  refine (A wb (unhide PB)).mono ?_
  rintro e w2 ⟨rfl, p2, g2⟩
  have T_ := hide (row_past (unhide BX) g2 (unhide GN).1)
  clear BX
  have BX := hide (unhide T_)
  clear T_
  have T_ := hide (row_past (unhide RB) g2 (unhide GN).2)
  clear RB
  have RB := hide (unhide T_)
  clear T_
  have P2 := hide p2
  have G2 := hide ((unhide GW).trans g2)
  have b0 : w2.cell? ⟨bo, 0, none⟩ = some (.int .i64 5) := (cell_of_row _ _ 0 _ 67 _ (unhide BX)).trans rfl
  clear p2 g2 GW PB A GN
  have R := hide (readS_any x d2 v w2 hs (unhide P2).own.rd)
  rw [hq, hu] at R
  go_wp2_with (refine wpList_load_row rfl 26 _ rfl g rfl 26 x.cs (0, 0) _ (unhide P2).row Tryz.underlying26 rfl (by kernel_rfl) ?_)
  refine (unhide R).mono ?_
  rintro e w3 ⟨rfl, hb⟩
  have P3 := hide ((unhide P2).later hb)
  have G3 := hide ((unhide G2).trans ⟨hb.os, hb.tape, hb.output, hb.size, fun k hk _ => hb.block k hk⟩)
  have T_ := hide (row_lat (unhide RB) hb)
  clear RB
  have RB := hide (unhide T_)
  clear T_ hb R P2 G2 b0 hq hu
  go_wp2_with (refine wpList_store_row rfl 97 _ _ rfl (bo + 1) #[.int .i64 0, .int .i64 0] rfl rfl 97 #[.int .i64 0, .int .i64 0] (unhide RB) (by kernel_rfl) rfl (by simp [Value.oneCell']) ?_)
  refine bodyPost_ret (results_row2 (P := Tryz.prog) rfl _ _ (bo + 1) 97 #[.int .i64 0, .int .i64 0] (0, 0) _ rfl (setRow_heap _ _ _ _ 97 _ (unhide RB)) Tryz.underlying97 rfl (by kernel_rfl)) rfl ?_
  exact ⟨rfl, (unhide P3).setRow (w := w) (unhide GL) (unhide AT) (by have := unhide HBO; omega) _, grown_setRow (unhide G3) (by have := unhide HBO; omega) _⟩
set_option maxHeartbeats 4000000 in
theorem plY_5 (P : Pm w g B gr rc x d) (hs : x.small) (v : Int) (d2 : Md) (u : Int) (hq : d2.has v = true) (hu : d2.get v = u) (A : AtP g B gr rc re X x d 5 v true d2) : PlP g B gr rc re X x w 5 (-1) u true d2 := by
  have bel : Below w.heap.size w ((w.alloc (.cells #[.int .i64 5, .int .i64 (re : Int), .int .i64 X] 67)).alloc (.cells #[.int .i64 0, .int .i64 0] 97)) := ((Below.refl _ _).alloc (Nat.le_refl _) _).alloc (by simp) _
  have PB := hide (P.later bel)
  have GL := hide (row_lt P.row)
  have AT := hide (fun b (hb : x.at b) => own_at_lt P.own hb)
  have glt := own_rlt P.own P.er
  have GN := hide (And.intro (show gr ≠ w.heap.size by omega) (show gr ≠ w.heap.size + 1 by omega))
  have BX := hide (show ((w.alloc (.cells #[.int .i64 5, .int .i64 (re : Int), .int .i64 X] 67)).alloc (.cells #[.int .i64 0, .int .i64 0] 97)).heap[w.heap.size]? = some (.cells #[.int .i64 5, .int .i64 (re : Int), .int .i64 X] 67 (0, 0)) from row_lat (heap_alloc_last w _) (below_new _ _))
  have RB := hide (show ((w.alloc (.cells #[.int .i64 5, .int .i64 (re : Int), .int .i64 X] 67)).alloc (.cells #[.int .i64 0, .int .i64 0] 97)).heap[w.heap.size + 1]? = some (.cells #[.int .i64 0, .int .i64 0] 97 (0, 0)) by have := heap_alloc_last (w.alloc (.cells #[.int .i64 5, .int .i64 (re : Int), .int .i64 X] 67)) (.cells #[.int .i64 0, .int .i64 0] 97); simpa using this)
  have GW := hide (show w.grownBy ((w.alloc (.cells #[.int .i64 5, .int .i64 (re : Int), .int .i64 X] 67)).alloc (.cells #[.int .i64 0, .int .i64 0] 97)) (some gr) from (World.grownBy_alloc w _ _).trans (World.grownBy_alloc _ _ _))
  unfold PlP
  clear bel P glt
  go_enter Tryz.func89, Tryz.ntmps89
  go_wp2_with fail
  generalize hbo : w.heap.size = bo at BX RB GN ⊢
  have HBO := hide hbo
  generalize hwb : (w.alloc (Obj.cells #[.int .i64 5, .int .i64 (re : Int), .int .i64 X] 67)).alloc (Obj.cells #[.int .i64 0, .int .i64 0] 97) = wb at PB BX RB GW ⊢
  clear hbo hwb
  refine (A wb (unhide PB)).mono ?_
  rintro e w2 ⟨rfl, p2, g2⟩
  have T_ := hide (row_past (unhide BX) g2 (unhide GN).1)
  clear BX
  have BX := hide (unhide T_)
  clear T_
  have T_ := hide (row_past (unhide RB) g2 (unhide GN).2)
  clear RB
  have RB := hide (unhide T_)
  clear T_
  have P2 := hide p2
  have G2 := hide ((unhide GW).trans g2)
  have b0 : w2.cell? ⟨bo, 0, none⟩ = some (.int .i64 5) := (cell_of_row _ _ 0 _ 67 _ (unhide BX)).trans rfl
  clear p2 g2 GW PB A GN
  have R := hide (readS_any x d2 v w2 hs (unhide P2).own.rd)
  rw [hq, hu] at R
  go_wp2_with (refine wpList_load_row rfl 26 _ rfl g rfl 26 x.cs (0, 0) _ (unhide P2).row Tryz.underlying26 rfl (by kernel_rfl) ?_)
  refine (unhide R).mono ?_
  rintro e w3 ⟨rfl, hb⟩
  have P3 := hide ((unhide P2).later hb)
  have G3 := hide ((unhide G2).trans ⟨hb.os, hb.tape, hb.output, hb.size, fun k hk _ => hb.block k hk⟩)
  have T_ := hide (row_lat (unhide RB) hb)
  clear RB
  have RB := hide (unhide T_)
  clear T_ hb R P2 G2 b0 hq hu
  go_wp2_with (refine wpList_store_row rfl 97 _ _ rfl (bo + 1) #[.int .i64 (-1), .int .i64 u] rfl rfl 97 #[.int .i64 0, .int .i64 0] (unhide RB) (by kernel_rfl) rfl (by simp [Value.oneCell']) ?_)
  refine bodyPost_ret (results_row2 (P := Tryz.prog) rfl _ _ (bo + 1) 97 #[.int .i64 (-1), .int .i64 u] (0, 0) _ rfl (setRow_heap _ _ _ _ 97 _ (unhide RB)) Tryz.underlying97 rfl (by kernel_rfl)) rfl ?_
  exact ⟨rfl, (unhide P3).setRow (w := w) (unhide GL) (unhide AT) (by have := unhide HBO; omega) _, grown_setRow (unhide G3) (by have := unhide HBO; omega) _⟩
set_option maxHeartbeats 4000000 in
theorem plN_6 (P : Pm w g B gr rc x d) (hs : x.small) (v : Int) (d2 : Md) (A : AtP g B gr rc re X x d 6 v false d2) : PlP g B gr rc re X x w 6 0 0 false d2 := by
  have bel : Below w.heap.size w ((w.alloc (.cells #[.int .i64 6, .int .i64 (re : Int), .int .i64 X] 67)).alloc (.cells #[.int .i64 0, .int .i64 0] 97)) := ((Below.refl _ _).alloc (Nat.le_refl _) _).alloc (by simp) _
  have PB := hide (P.later bel)
  have GL := hide (row_lt P.row)
  have AT := hide (fun b (hb : x.at b) => own_at_lt P.own hb)
  have glt := own_rlt P.own P.er
  have GN := hide (And.intro (show gr ≠ w.heap.size by omega) (show gr ≠ w.heap.size + 1 by omega))
  have BX := hide (show ((w.alloc (.cells #[.int .i64 6, .int .i64 (re : Int), .int .i64 X] 67)).alloc (.cells #[.int .i64 0, .int .i64 0] 97)).heap[w.heap.size]? = some (.cells #[.int .i64 6, .int .i64 (re : Int), .int .i64 X] 67 (0, 0)) from row_lat (heap_alloc_last w _) (below_new _ _))
  have RB := hide (show ((w.alloc (.cells #[.int .i64 6, .int .i64 (re : Int), .int .i64 X] 67)).alloc (.cells #[.int .i64 0, .int .i64 0] 97)).heap[w.heap.size + 1]? = some (.cells #[.int .i64 0, .int .i64 0] 97 (0, 0)) by have := heap_alloc_last (w.alloc (.cells #[.int .i64 6, .int .i64 (re : Int), .int .i64 X] 67)) (.cells #[.int .i64 0, .int .i64 0] 97); simpa using this)
  have GW := hide (show w.grownBy ((w.alloc (.cells #[.int .i64 6, .int .i64 (re : Int), .int .i64 X] 67)).alloc (.cells #[.int .i64 0, .int .i64 0] 97)) (some gr) from (World.grownBy_alloc w _ _).trans (World.grownBy_alloc _ _ _))
  unfold PlP
  clear bel P glt
  go_enter Tryz.func89, Tryz.ntmps89
  go_wp2_with fail
  generalize hbo : w.heap.size = bo at BX RB GN ⊢
  have HBO := hide hbo
  generalize hwb : (w.alloc (Obj.cells #[.int .i64 6, .int .i64 (re : Int), .int .i64 X] 67)).alloc (Obj.cells #[.int .i64 0, .int .i64 0] 97) = wb at PB BX RB GW ⊢
  clear hbo hwb
  refine (A wb (unhide PB)).mono ?_
  rintro e w2 ⟨rfl, p2, g2⟩
  have T_ := hide (row_past (unhide BX) g2 (unhide GN).1)
  clear BX
  have BX := hide (unhide T_)
  clear T_
  have T_ := hide (row_past (unhide RB) g2 (unhide GN).2)
  clear RB
  have RB := hide (unhide T_)
  clear T_
  have P2 := hide p2
  have G2 := hide ((unhide GW).trans g2)
  have b0 : w2.cell? ⟨bo, 0, none⟩ = some (.int .i64 6) := (cell_of_row _ _ 0 _ 67 _ (unhide BX)).trans rfl
  clear p2 g2 GW PB A GN
  go_wp2_with (refine wpList_store_row rfl 97 _ _ rfl (bo + 1) #[.int .i64 0, .int .i64 0] rfl rfl 97 #[.int .i64 0, .int .i64 0] (unhide RB) (by kernel_rfl) rfl (by simp [Value.oneCell']) ?_)
  refine bodyPost_ret (results_row2 (P := Tryz.prog) rfl _ _ (bo + 1) 97 #[.int .i64 0, .int .i64 0] (0, 0) _ rfl (setRow_heap _ _ _ _ 97 _ (unhide RB)) Tryz.underlying97 rfl (by kernel_rfl)) rfl ?_
  exact ⟨rfl, (unhide P2).setRow (w := w) (unhide GL) (unhide AT) (by have := unhide HBO; omega) _, grown_setRow (unhide G2) (by have := unhide HBO; omega) _⟩
set_option maxHeartbeats 4000000 in
theorem plY_6 (P : Pm w g B gr rc x d) (hs : x.small) (v : Int) (d2 : Md) (A : AtP g B gr rc re X x d 6 v true d2) : PlP g B gr rc re X x w 6 (-1) v true d2 := by
  have bel : Below w.heap.size w ((w.alloc (.cells #[.int .i64 6, .int .i64 (re : Int), .int .i64 X] 67)).alloc (.cells #[.int .i64 0, .int .i64 0] 97)) := ((Below.refl _ _).alloc (Nat.le_refl _) _).alloc (by simp) _
  have PB := hide (P.later bel)
  have GL := hide (row_lt P.row)
  have AT := hide (fun b (hb : x.at b) => own_at_lt P.own hb)
  have glt := own_rlt P.own P.er
  have GN := hide (And.intro (show gr ≠ w.heap.size by omega) (show gr ≠ w.heap.size + 1 by omega))
  have BX := hide (show ((w.alloc (.cells #[.int .i64 6, .int .i64 (re : Int), .int .i64 X] 67)).alloc (.cells #[.int .i64 0, .int .i64 0] 97)).heap[w.heap.size]? = some (.cells #[.int .i64 6, .int .i64 (re : Int), .int .i64 X] 67 (0, 0)) from row_lat (heap_alloc_last w _) (below_new _ _))
  have RB := hide (show ((w.alloc (.cells #[.int .i64 6, .int .i64 (re : Int), .int .i64 X] 67)).alloc (.cells #[.int .i64 0, .int .i64 0] 97)).heap[w.heap.size + 1]? = some (.cells #[.int .i64 0, .int .i64 0] 97 (0, 0)) by have := heap_alloc_last (w.alloc (.cells #[.int .i64 6, .int .i64 (re : Int), .int .i64 X] 67)) (.cells #[.int .i64 0, .int .i64 0] 97); simpa using this)
  have GW := hide (show w.grownBy ((w.alloc (.cells #[.int .i64 6, .int .i64 (re : Int), .int .i64 X] 67)).alloc (.cells #[.int .i64 0, .int .i64 0] 97)) (some gr) from (World.grownBy_alloc w _ _).trans (World.grownBy_alloc _ _ _))
  unfold PlP
  clear bel P glt
  go_enter Tryz.func89, Tryz.ntmps89
  go_wp2_with fail
  generalize hbo : w.heap.size = bo at BX RB GN ⊢
  have HBO := hide hbo
  generalize hwb : (w.alloc (Obj.cells #[.int .i64 6, .int .i64 (re : Int), .int .i64 X] 67)).alloc (Obj.cells #[.int .i64 0, .int .i64 0] 97) = wb at PB BX RB GW ⊢
  clear hbo hwb
  refine (A wb (unhide PB)).mono ?_
  rintro e w2 ⟨rfl, p2, g2⟩
  have T_ := hide (row_past (unhide BX) g2 (unhide GN).1)
  clear BX
  have BX := hide (unhide T_)
  clear T_
  have T_ := hide (row_past (unhide RB) g2 (unhide GN).2)
  clear RB
  have RB := hide (unhide T_)
  clear T_
  have P2 := hide p2
  have G2 := hide ((unhide GW).trans g2)
  have b0 : w2.cell? ⟨bo, 0, none⟩ = some (.int .i64 6) := (cell_of_row _ _ 0 _ 67 _ (unhide BX)).trans rfl
  clear p2 g2 GW PB A GN
  go_wp2_with (refine wpList_store_row rfl 97 _ _ rfl (bo + 1) #[.int .i64 (-1), .int .i64 v] rfl rfl 97 #[.int .i64 0, .int .i64 0] (unhide RB) (by kernel_rfl) rfl (by simp [Value.oneCell']) ?_)
  refine bodyPost_ret (results_row2 (P := Tryz.prog) rfl _ _ (bo + 1) 97 #[.int .i64 (-1), .int .i64 v] (0, 0) _ rfl (setRow_heap _ _ _ _ 97 _ (unhide RB)) Tryz.underlying97 rfl (by kernel_rfl)) rfl ?_
  exact ⟨rfl, (unhide P2).setRow (w := w) (unhide GL) (unhide AT) (by have := unhide HBO; omega) _, grown_setRow (unhide G2) (by have := unhide HBO; omega) _⟩
set_option maxHeartbeats 4000000 in
theorem plN_7 (P : Pm w g B gr rc x d) (hs : x.small) (v : Int) (d2 : Md) (A : AtP g B gr rc re X x d 7 v false d2) : PlP g B gr rc re X x w 7 0 0 false d2 := by
  have bel : Below w.heap.size w ((w.alloc (.cells #[.int .i64 7, .int .i64 (re : Int), .int .i64 X] 67)).alloc (.cells #[.int .i64 0, .int .i64 0] 97)) := ((Below.refl _ _).alloc (Nat.le_refl _) _).alloc (by simp) _
  have PB := hide (P.later bel)
  have GL := hide (row_lt P.row)
  have AT := hide (fun b (hb : x.at b) => own_at_lt P.own hb)
  have glt := own_rlt P.own P.er
  have GN := hide (And.intro (show gr ≠ w.heap.size by omega) (show gr ≠ w.heap.size + 1 by omega))
  have BX := hide (show ((w.alloc (.cells #[.int .i64 7, .int .i64 (re : Int), .int .i64 X] 67)).alloc (.cells #[.int .i64 0, .int .i64 0] 97)).heap[w.heap.size]? = some (.cells #[.int .i64 7, .int .i64 (re : Int), .int .i64 X] 67 (0, 0)) from row_lat (heap_alloc_last w _) (below_new _ _))
  have RB := hide (show ((w.alloc (.cells #[.int .i64 7, .int .i64 (re : Int), .int .i64 X] 67)).alloc (.cells #[.int .i64 0, .int .i64 0] 97)).heap[w.heap.size + 1]? = some (.cells #[.int .i64 0, .int .i64 0] 97 (0, 0)) by have := heap_alloc_last (w.alloc (.cells #[.int .i64 7, .int .i64 (re : Int), .int .i64 X] 67)) (.cells #[.int .i64 0, .int .i64 0] 97); simpa using this)
  have GW := hide (show w.grownBy ((w.alloc (.cells #[.int .i64 7, .int .i64 (re : Int), .int .i64 X] 67)).alloc (.cells #[.int .i64 0, .int .i64 0] 97)) (some gr) from (World.grownBy_alloc w _ _).trans (World.grownBy_alloc _ _ _))
  unfold PlP
  clear bel P glt
  go_enter Tryz.func89, Tryz.ntmps89
  go_wp2_with fail
  generalize hbo : w.heap.size = bo at BX RB GN ⊢
  have HBO := hide hbo
  generalize hwb : (w.alloc (Obj.cells #[.int .i64 7, .int .i64 (re : Int), .int .i64 X] 67)).alloc (Obj.cells #[.int .i64 0, .int .i64 0] 97) = wb at PB BX RB GW ⊢
  clear hbo hwb
  refine (A wb (unhide PB)).mono ?_
  rintro e w2 ⟨rfl, p2, g2⟩
  have T_ := hide (row_past (unhide BX) g2 (unhide GN).1)
  clear BX
  have BX := hide (unhide T_)
  clear T_
  have T_ := hide (row_past (unhide RB) g2 (unhide GN).2)
  clear RB
  have RB := hide (unhide T_)
  clear T_
  have P2 := hide p2
  have G2 := hide ((unhide GW).trans g2)
  have b0 : w2.cell? ⟨bo, 0, none⟩ = some (.int .i64 7) := (cell_of_row _ _ 0 _ 67 _ (unhide BX)).trans rfl
  clear p2 g2 GW PB A GN
  go_wp2_with (refine wpList_store_row rfl 97 _ _ rfl (bo + 1) #[.int .i64 0, .int .i64 0] rfl rfl 97 #[.int .i64 0, .int .i64 0] (unhide RB) (by kernel_rfl) rfl (by simp [Value.oneCell']) ?_)
  refine bodyPost_ret (results_row2 (P := Tryz.prog) rfl _ _ (bo + 1) 97 #[.int .i64 0, .int .i64 0] (0, 0) _ rfl (setRow_heap _ _ _ _ 97 _ (unhide RB)) Tryz.underlying97 rfl (by kernel_rfl)) rfl ?_
  exact ⟨rfl, (unhide P2).setRow (w := w) (unhide GL) (unhide AT) (by have := unhide HBO; omega) _, grown_setRow (unhide G2) (by have := unhide HBO; omega) _⟩
set_option maxHeartbeats 4000000 in
theorem plM_7 (P : Pm w g B gr rc x d) (hs : x.small) (v : Int) (d2 : Md) (u : Int) (hq : d2.has v = false) (hu : d2.get v = u) (A : AtP g B gr rc re X x d 7 v true d2) : PlP g B gr rc re X x w 7 0 0 false d2 := by
  have bel : Below w.heap.size w ((w.alloc (.cells #[.int .i64 7, .int .i64 (re : Int), .int .i64 X] 67)).alloc (.cells #[.int .i64 0, .int .i64 0] 97)) := ((Below.refl _ _).alloc (Nat.le_refl _) _).alloc (by simp) _
  have PB := hide (P.later bel)
  have GL := hide (row_lt P.row)
  have AT := hide (fun b (hb : x.at b) => own_at_lt P.own hb)
  have glt := own_rlt P.own P.er
  have GN := hide (And.intro (show gr ≠ w.heap.size by omega) (show gr ≠ w.heap.size + 1 by omega))
  have BX := hide (show ((w.alloc (.cells #[.int .i64 7, .int .i64 (re : Int), .int .i64 X] 67)).alloc (.cells #[.int .i64 0, .int .i64 0] 97)).heap[w.heap.size]? = some (.cells #[.int .i64 7, .int .i64 (re : Int), .int .i64 X] 67 (0, 0)) from row_lat (heap_alloc_last w _) (below_new _ _))
  have RB := hide (show ((w.alloc (.cells #[.int .i64 7, .int .i64 (re : Int), .int .i64 X] 67)).alloc (.cells #[.int .i64 0, .int .i64 0] 97)).heap[w.heap.size + 1]? = some (.cells #[.int .i64 0, .int .i64 0] 97 (0, 0)) by have := heap_alloc_last (w.alloc (.cells #[.int .i64 7, .int .i64 (re : Int), .int .i64 X] 67)) (.cells #[.int .i64 0, .int .i64 0] 97); simpa using this)
  have GW := hide (show w.grownBy ((w.alloc (.cells #[.int .i64 7, .int .i64 (re : Int), .int .i64 X] 67)).alloc (.cells #[.int .i64 0, .int .i64 0] 97)) (some gr) from (World.grownBy_alloc w _ _).trans (World.grownBy_alloc _ _ _))
  unfold PlP
  clear bel P glt
  go_enter Tryz.func89, Tryz.ntmps89
  go_wp2_with fail
  generalize hbo : w.heap.size = bo at BX RB GN ⊢
  have HBO := hide hbo
  generalize hwb : (w.alloc (Obj.cells #[.int .i64 7, .int .i64 (re : Int), .int .i64 X] 67)).alloc (Obj.cells #[.int .i64 0, .int .i64 0] 97) = wb at PB BX RB GW ⊢
  clear hbo hwb
  refine (A wb (unhide PB)).mono ?_
  rintro e w2 ⟨rfl, p2, g2⟩
  have T_ := hide (row_past (unhide BX) g2 (unhide GN).1)
  clear BX
  have BX := hide (unhide T_)
  clear T_
  have T_ := hide (row_past (unhide RB) g2 (unhide GN).2)
  clear RB
  have RB := hide (unhide T_)
  clear T_
  have P2 := hide p2
  have G2 := hide ((unhide GW).trans g2)
  have b0 : w2.cell? ⟨bo, 0, none⟩ = some (.int .i64 7) := (cell_of_row _ _ 0 _ 67 _ (unhide BX)).trans rfl
  clear p2 g2 GW PB A GN
  have R := hide (readS_any x d2 v w2 hs (unhide P2).own.rd)
  rw [hq, hu] at R
  go_wp2_with (refine wpList_load_row rfl 26 _ rfl g rfl 26 x.cs (0, 0) _ (unhide P2).row Tryz.underlying26 rfl (by kernel_rfl) ?_)
  refine (unhide R).mono ?_
  rintro e w3 ⟨rfl, hb⟩
  have P3 := hide ((unhide P2).later hb)
  have G3 := hide ((unhide G2).trans ⟨hb.os, hb.tape, hb.output, hb.size, fun k hk _ => hb.block k hk⟩)
  have T_ := hide (row_lat (unhide RB) hb)
  clear RB
  have RB := hide (unhide T_)
  clear T_ hb R P2 G2 b0 hq hu
  go_wp2_with (refine wpList_store_row rfl 97 _ _ rfl (bo + 1) #[.int .i64 0, .int .i64 0] rfl rfl 97 #[.int .i64 0, .int .i64 0] (unhide RB) (by kernel_rfl) rfl (by simp [Value.oneCell']) ?_)
  refine bodyPost_ret (results_row2 (P := Tryz.prog) rfl _ _ (bo + 1) 97 #[.int .i64 0, .int .i64 0] (0, 0) _ rfl (setRow_heap _ _ _ _ 97 _ (unhide RB)) Tryz.underlying97 rfl (by kernel_rfl)) rfl ?_
  exact ⟨rfl, (unhide P3).setRow (w := w) (unhide GL) (unhide AT) (by have := unhide HBO; omega) _, grown_setRow (unhide G3) (by have := unhide HBO; omega) _⟩
set_option maxHeartbeats 4000000 in
theorem plY_7 (P : Pm w g B gr rc x d) (hs : x.small) (v : Int) (d2 : Md) (u : Int) (hq : d2.has v = true) (hu : d2.get v = u) (A : AtP g B gr rc re X x d 7 v true d2) : PlP g B gr rc re X x w 7 (-1) u true d2 := by
  have bel : Below w.heap.size w ((w.alloc (.cells #[.int .i64 7, .int .i64 (re : Int), .int .i64 X] 67)).alloc (.cells #[.int .i64 0, .int .i64 0] 97)) := ((Below.refl _ _).alloc (Nat.le_refl _) _).alloc (by simp) _
  have PB := hide (P.later bel)
  have GL := hide (row_lt P.row)
  have AT := hide (fun b (hb : x.at b) => own_at_lt P.own hb)
  have glt := own_rlt P.own P.er
  have GN := hide (And.intro (show gr ≠ w.heap.size by omega) (show gr ≠ w.heap.size + 1 by omega))
  have BX := hide (show ((w.alloc (.cells #[.int .i64 7, .int .i64 (re : Int), .int .i64 X] 67)).alloc (.cells #[.int .i64 0, .int .i64 0] 97)).heap[w.heap.size]? = some (.cells #[.int .i64 7, .int .i64 (re : Int), .int .i64 X] 67 (0, 0)) from row_lat (heap_alloc_last w _) (below_new _ _))
  have RB := hide (show ((w.alloc (.cells #[.int .i64 7, .int .i64 (re : Int), .int .i64 X] 67)).alloc (.cells #[.int .i64 0, .int .i64 0] 97)).heap[w.heap.size + 1]? = some (.cells #[.int .i64 0, .int .i64 0] 97 (0, 0)) by have := heap_alloc_last (w.alloc (.cells #[.int .i64 7, .int .i64 (re : Int), .int .i64 X] 67)) (.cells #[.int .i64 0, .int .i64 0] 97); simpa using this)
  have GW := hide (show w.grownBy ((w.alloc (.cells #[.int .i64 7, .int .i64 (re : Int), .int .i64 X] 67)).alloc (.cells #[.int .i64 0, .int .i64 0] 97)) (some gr) from (World.grownBy_alloc w _ _).trans (World.grownBy_alloc _ _ _))
  unfold PlP
  clear bel P glt
  go_enter Tryz.func89, Tryz.ntmps89
  go_wp2_with fail
  generalize hbo : w.heap.size = bo at BX RB GN ⊢
  have HBO := hide hbo
  generalize hwb : (w.alloc (Obj.cells #[.int .i64 7, .int .i64 (re : Int), .int .i64 X] 67)).alloc (Obj.cells #[.int .i64 0, .int .i64 0] 97) = wb at PB BX RB GW ⊢
  clear hbo hwb
  refine (A wb (unhide PB)).mono ?_
  rintro e w2 ⟨rfl, p2, g2⟩
  have T_ := hide (row_past (unhide BX) g2 (unhide GN).1)
  clear BX
  have BX := hide (unhide T_)
  clear T_
  have T_ := hide (row_past (unhide RB) g2 (unhide GN).2)
  clear RB
  have RB := hide (unhide T_)
  clear T_
  have P2 := hide p2
  have G2 := hide ((unhide GW).trans g2)
  have b0 : w2.cell? ⟨bo, 0, none⟩ = some (.int .i64 7) := (cell_of_row _ _ 0 _ 67 _ (unhide BX)).trans rfl
  clear p2 g2 GW PB A GN
  have R := hide (readS_any x d2 v w2 hs (unhide P2).own.rd)
  rw [hq, hu] at R
  go_wp2_with (refine wpList_load_row rfl 26 _ rfl g rfl 26 x.cs (0, 0) _ (unhide P2).row Tryz.underlying26 rfl (by kernel_rfl) ?_)
  refine (unhide R).mono ?_
  rintro e w3 ⟨rfl, hb⟩
  have P3 := hide ((unhide P2).later hb)
  have G3 := hide ((unhide G2).trans ⟨hb.os, hb.tape, hb.output, hb.size, fun k hk _ => hb.block k hk⟩)
  have T_ := hide (row_lat (unhide RB) hb)
  clear RB
  have RB := hide (unhide T_)
  clear T_ hb R P2 G2 b0 hq hu
  go_wp2_with (refine wpList_store_row rfl 97 _ _ rfl (bo + 1) #[.int .i64 (-1), .int .i64 u] rfl rfl 97 #[.int .i64 0, .int .i64 0] (unhide RB) (by kernel_rfl) rfl (by simp [Value.oneCell']) ?_)
  refine bodyPost_ret (results_row2 (P := Tryz.prog) rfl _ _ (bo + 1) 97 #[.int .i64 (-1), .int .i64 u] (0, 0) _ rfl (setRow_heap _ _ _ _ 97 _ (unhide RB)) Tryz.underlying97 rfl (by kernel_rfl)) rfl ?_
  exact ⟨rfl, (unhide P3).setRow (w := w) (unhide GL) (unhide AT) (by have := unhide HBO; omega) _, grown_setRow (unhide G3) (by have := unhide HBO; omega) _⟩
set_option maxHeartbeats 4000000 in
theorem plZ_0 (P : Pm w g B gr rc x d) : PlP g B gr rc re X x w 0 (re : Int) (-1) true d := by
  have PB := hide (P.later (((Below.refl _ _).alloc (Nat.le_refl _) (.cells #[.int .i64 0, .int .i64 (re : Int), .int .i64 X] 67)).alloc (by simp) (.cells #[.int .i64 (re : Int), .int .i64 (-1)] 97)))
  have GW := hide (show w.grownBy ((w.alloc (.cells #[.int .i64 0, .int .i64 (re : Int), .int .i64 X] 67)).alloc (.cells #[.int .i64 (re : Int), .int .i64 (-1)] 97)) (some gr) from (World.grownBy_alloc w _ _).trans (World.grownBy_alloc _ _ _))
  have RB := hide (show ((w.alloc (.cells #[.int .i64 0, .int .i64 (re : Int), .int .i64 X] 67)).alloc (.cells #[.int .i64 (re : Int), .int .i64 (-1)] 97)).heap[w.heap.size + 1]? = some (.cells #[.int .i64 (re : Int), .int .i64 (-1)] 97 (0, 0)) by have := heap_alloc_last (w.alloc (.cells #[.int .i64 0, .int .i64 (re : Int), .int .i64 X] 67)) (.cells #[.int .i64 (re : Int), .int .i64 (-1)] 97); simpa using this)
  unfold PlP
  clear P
  go_enter Tryz.func89, Tryz.ntmps89
  go_wp2_with fail
  refine bodyPost_ret (results_row2 (P := Tryz.prog) rfl _ _ (w.heap.size + 1) 97 #[.int .i64 (re : Int), .int .i64 (-1)] (0, 0) _ rfl (unhide RB) Tryz.underlying97 rfl (by kernel_rfl)) rfl ?_
  exact ⟨rfl, unhide PB, unhide GW⟩
end
def PlIs (g B gr rc mo re : Nat) (X : Int) (x : Mv) (d : Md) (w : World) : Prop := Calls Tryz.prog 89 #[.pointer (some ⟨g, 0, none⟩), .agg #[.int .i64 (mo : Int), .int .i64 (re : Int), .int .i64 X]] w fun e w' => e = .returned (.tuple #[.agg #[.int .i64 (d.plR mo re), .int .i64 (d.plA mo re)], .bool (d.plO mo re)]) ∧ Pm w' g B gr rc x (d.plD mo re) ∧ w.grownBy w' (some gr)
theorem plS_any (g B gr rc mo re : Nat) (X : Int) (x : Mv) (d : Md) (w : World) (P : Pm w g B gr rc x d) (h8 : d.R8) (hr : re < 8) (hs : x.small) (hx : 0 ≤ d.get (nAt d.r 7) ∧ d.get (nAt d.r 7) ≤ 65535) (h7 : mo ≤ 7) : PlIs g B gr rc mo re X x d w := by
  have hA : 1 ≤ mo → AtP g B gr rc re X x d mo (d.adV mo re) (d.adO mo re) (d.adD mo re) := fun h1 wb Pb => atS_any g B gr rc mo re X x d wb Pb h8 hr hs hx h1 h7
  rcases (show mo = 0 ∨ mo = 1 ∨ mo = 2 ∨ mo = 3 ∨ mo = 4 ∨ mo = 5 ∨ mo = 6 ∨ mo = 7 by omega) with rfl | rfl | rfl | rfl | rfl | rfl | rfl | rfl
  · exact plZ_0 g B gr rc re X x d w P
  · have A := hA (by omega)
    unfold PlIs Md.plR Md.plA Md.plD
    rw [show d.plO 1 re = d.adO 1 re by unfold Md.plO; simp [oddM]]
    generalize d.adO 1 re = ok at A ⊢
    cases ok
    · exact plN_1 g B gr rc re X x d w P hs _ _ A
    · exact plY_1 g B gr rc re X x d w P hs _ _ A
  · have A := hA (by omega)
    unfold PlIs Md.plR Md.plA Md.plD
    rw [show d.plO 2 re = d.adO 2 re by unfold Md.plO; simp [oddM]]
    generalize d.adO 2 re = ok at A ⊢
    cases ok
    · exact plN_2 g B gr rc re X x d w P hs _ _ A
    · exact plY_2 g B gr rc re X x d w P hs _ _ A
  · have A := hA (by omega)
    unfold PlIs Md.plR Md.plA Md.plD
    rw [show d.plO 3 re = (d.adO 3 re && (d.adD 3 re).has (d.adV 3 re)) by unfold Md.plO; simp [oddM]]
    generalize d.adO 3 re = ok at A ⊢
    cases ok
    · exact plN_3 g B gr rc re X x d w P hs _ _ A
    · cases hq : (d.adD 3 re).has (d.adV 3 re)
      · exact plM_3 g B gr rc re X x d w P hs _ _ _ hq rfl A
      · exact plY_3 g B gr rc re X x d w P hs _ _ _ hq rfl A
  · have A := hA (by omega)
    unfold PlIs Md.plR Md.plA Md.plD
    rw [show d.plO 4 re = d.adO 4 re by unfold Md.plO; simp [oddM]]
    generalize d.adO 4 re = ok at A ⊢
    cases ok
    · exact plN_4 g B gr rc re X x d w P hs _ _ A
    · exact plY_4 g B gr rc re X x d w P hs _ _ A
  · have A := hA (by omega)
    unfold PlIs Md.plR Md.plA Md.plD
    rw [show d.plO 5 re = (d.adO 5 re && (d.adD 5 re).has (d.adV 5 re)) by unfold Md.plO; simp [oddM]]
    generalize d.adO 5 re = ok at A ⊢
    cases ok
    · exact plN_5 g B gr rc re X x d w P hs _ _ A
    · cases hq : (d.adD 5 re).has (d.adV 5 re)
      · exact plM_5 g B gr rc re X x d w P hs _ _ _ hq rfl A
      · exact plY_5 g B gr rc re X x d w P hs _ _ _ hq rfl A
  · have A := hA (by omega)
    unfold PlIs Md.plR Md.plA Md.plD
    rw [show d.plO 6 re = d.adO 6 re by unfold Md.plO; simp [oddM]]
    generalize d.adO 6 re = ok at A ⊢
    cases ok
    · exact plN_6 g B gr rc re X x d w P hs _ _ A
    · exact plY_6 g B gr rc re X x d w P hs _ _ A
  · have A := hA (by omega)
    unfold PlIs Md.plR Md.plA Md.plD
    rw [show d.plO 7 re = (d.adO 7 re && (d.adD 7 re).has (d.adV 7 re)) by unfold Md.plO; simp [oddM]]
    generalize d.adO 7 re = ok at A ⊢
    cases ok
    · exact plN_7 g B gr rc re X x d w P hs _ _ A
    · cases hq : (d.adD 7 re).has (d.adV 7 re)
      · exact plM_7 g B gr rc re X x d w P hs _ _ _ hq rfl A
      · exact plY_7 g B gr rc re X x d w P hs _ _ _ hq rfl A
end Go.Proofs.YtjpbjbnialehbaaGreatDoor

namespace Go.Proofs.YtjpbjbnialehbaaGreatDoor
open Go.ChangeShapes Go.WideShapes Go.ChangeAt Go.RowKit
set_option linter.unusedVariables false
set_option maxRecDepth 8000
set_option linter.unusedSimpArgs false
theorem Pg.setRow {w w1 : World} {g B gr rc b : Nat} {y : Mv} {d : Md} (h : Pg w1 g B gr rc y d) (hg : g < w.heap.size) (ha : ∀ b, y.at b → b < w.heap.size) (hb : w.heap.size ≤ b) (cs : Array Value) : Pg (w1.setRow b cs) g B gr rc y d :=
  ⟨(setRow_other w1 b g cs (by omega)).trans h.row, h.len, h.own.keepH fun k hk _ => setRow_other w1 b k cs (by have := ha k hk; omega), h.er, h.ne⟩
/-- While a place is looked for: the operand's box, the answer's place. -/
structure Bu (w wr : World) (gr : Nat) (mo re X : Int) : Prop where
  bo : wr.heap[w.heap.size]? = some (.cells #[.int .i64 mo, .int .i64 re, .int .i64 X] 67 (0, 0))
  rp : wr.heap[w.heap.size + 1]? = some (.cells #[.int .i64 0, .int .i64 0] 97 (0, 0))
  gw : w.grownBy wr (some gr)
  lt : gr < w.heap.size
  sz : w.heap.size + 2 ≤ wr.heap.size
section
variable {w wr w' : World} {gr : Nat} {mo re X : Int}
theorem bu_new (mo re X : Int) (h : gr < w.heap.size) : Bu w ((w.alloc (.cells #[.int .i64 mo, .int .i64 re, .int .i64 X] 67)).alloc (.cells #[.int .i64 0, .int .i64 0] 97)) gr mo re X :=
  ⟨row_lat (heap_alloc_last w _) (below_new _ _), by have := heap_alloc_last (w.alloc (.cells #[.int .i64 mo, .int .i64 re, .int .i64 X] 67)) (.cells #[.int .i64 0, .int .i64 0] 97); simpa using this, grown_below (grownBy_below (below_new w _)) (below_new _ _), h, by simp⟩
theorem Bu.later (h : Bu w wr gr mo re X) (hb : Below wr.heap.size wr w') : Bu w w' gr mo re X := ⟨row_lat h.bo hb, row_lat h.rp hb, grown_below h.gw hb, h.lt, Nat.le_trans h.sz hb.size⟩
theorem Bu.past (h : Bu w wr gr mo re X) (hg : wr.grownBy w' (some gr)) : Bu w w' gr mo re X := ⟨row_past h.bo hg (by have := h.lt; omega), row_past h.rp hg (by have := h.lt; omega), h.gw.trans hg, h.lt, Nat.le_trans h.sz hg.size⟩
theorem Bu.done (h : Bu w wr gr mo re X) (cs : Array Value) : (wr.setRow (w.heap.size + 1) cs).heap[w.heap.size + 1]? = some (.cells cs 97 (0, 0)) ∧ w.grownBy (wr.setRow (w.heap.size + 1) cs) (some gr) :=
  ⟨setRow_heap wr _ _ _ 97 _ h.rp, grown_setRow h.gw (by omega) _⟩
theorem Bu.c0 (h : Bu w wr gr mo re X) : wr.cell? ⟨w.heap.size, 0, none⟩ = some (.int .i64 mo) := (cell_of_row wr _ 0 _ 67 _ h.bo).trans rfl
theorem Bu.c1 (h : Bu w wr gr mo re X) : wr.cell? ⟨w.heap.size, 1, none⟩ = some (.int .i64 re) := (cell_of_row wr _ 1 _ 67 _ h.bo).trans rfl
theorem below_two (w : World) (o p : Obj) : Below w.heap.size w ((w.alloc o).alloc p) := ((below_new w o).alloc (by simp) p)
end
section
variable (g B gr rc re : Nat) (X : Int) (y : Mv) (d : Md) (w : World)
/-- What the program's placeOf answers. -/
def PoIs (mo rr aa : Int) (ok : Bool) (d2 : Md) : Prop := Calls Tryz.prog 139 #[.pointer (some ⟨g, 0, none⟩), .agg #[.int .i64 mo, .int .i64 (re : Int), .int .i64 X]] w fun e w' => e = .returned (.tuple #[.agg #[.int .i64 rr, .int .i64 aa], .bool ok]) ∧ Pg w' g B gr rc y d2 ∧ w.grownBy w' (some gr)
set_option maxHeartbeats 4000000 in
theorem po_0 (P : Pg w g B gr rc y d) (h8 : d.R8) (hr : re < 8) (hs : y.small) (hlt : gr < w.heap.size) (hgl : g < w.heap.size) : PoIs g B gr rc re X y w 0 (re : Int) (-1) true (d) := by
  unfold PoIs
  have U := hide (bu_new (w := w) 0 (re : Int) X hlt)
  have PW := hide (P.later (below_two w (Obj.cells #[.int .i64 0, .int .i64 (re : Int), .int .i64 X] 67) (Obj.cells #[.int .i64 0, .int .i64 0] 97)))
  have AT := hide (fun b (hb : y.at b) => own_at_lt P.own hb)
  have GL := hide hgl
  obtain ⟨v0, v1⟩ := h8.2 re hr
  have hrl : re < d.r.length := by rw [h8.1]; exact hr
  have HRL := hide hrl
  have H8 := hide h8
  have HS := hide hs
  clear P hlt hgl hs
  go_enter Tryz.func139, Tryz.ntmps139
  go_wp2_with fail
  generalize ((w.alloc (Obj.cells #[.int .i64 0, .int .i64 (re : Int), .int .i64 X] 67)).alloc (Obj.cells #[.int .i64 0, .int .i64 0] 97)) = W0 at U PW ⊢
  have ne := Sub.ne W0.heap.size W0
  have c1 : ∀ s : Sub W0.heap.size W0, s.w.cell? ⟨g, 257, none⟩ = some (.slice (some ⟨gr, 0, none⟩) 8 rc) := fun s => by have := ((unhide PW).later s.h).r; rw [(unhide H8).1] at this; exact this
  have c2 : ∀ s : Sub W0.heap.size W0, s.w.cell? ⟨gr, re, none⟩ = some (.int .i64 (nAt d.r re)) := fun s => ((unhide PW).later s.h).cell re (unhide HRL)
  have b0 : ∀ s : Sub W0.heap.size W0, s.w.cell? ⟨w.heap.size, 0, none⟩ = some (.int .i64 0) := fun s => ((unhide U).later s.h).c0
  have b1 : ∀ s : Sub W0.heap.size W0, s.w.cell? ⟨w.heap.size, 1, none⟩ = some (.int .i64 (re : Int)) := fun s => ((unhide U).later s.h).c1
  have hri : (re : Int) < 8 := by omega
  clear h8
  refine wp_region_sub (⟨W0, Below.refl _ _⟩ : Sub W0.heap.size W0) (by kernel_rfl) (by kernel_rfl) ?_
  repeat (go_big_quiet_step (fail))
  refine wpQuiet_nil ?_
  intro s
  have US := hide ((unhide U).later s.h)
  have PS := hide ((unhide PW).later s.h)
  go_wp2_with fail
  refine (regPlace_any _ _).mono ?_
  rintro e w1 ⟨rfl, hb⟩
  have U1 := hide ((unhide US).later hb)
  have P1 := hide ((unhide PS).later hb)
  clear hb
  go_wp2_with (first | (refine wpList_store_row rfl 97 _ _ rfl (w.heap.size + 1) #[.int .i64 (re : Int), .int .i64 (-1)] rfl rfl 97 #[.int .i64 0, .int .i64 0] (unhide U1).rp (by kernel_rfl) rfl (by simp [Value.oneCell']) ?_))
  obtain ⟨r1, r2⟩ := (unhide U1).done #[.int .i64 (re : Int), .int .i64 (-1)]
  refine bodyPost_ret (results_row2 (P := Tryz.prog) rfl _ _ (w.heap.size + 1) 97 #[.int .i64 (re : Int), .int .i64 (-1)] (0, 0) _ rfl r1 Tryz.underlying97 rfl (by kernel_rfl)) rfl ?_
  exact ⟨rfl, (unhide P1).setRow (w := w) (unhide GL) (unhide AT) (by omega) _, r2⟩
set_option maxHeartbeats 4000000 in
theorem po_1 (P : Pg w g B gr rc y d) (h8 : d.R8) (hr : re < 8) (hs : y.small) (hlt : gr < w.heap.size) (hgl : g < w.heap.size) : PoIs g B gr rc re X y w 1 (-1) (nAt d.r re) true (d) := by
  unfold PoIs
  have U := hide (bu_new (w := w) 1 (re : Int) X hlt)
  have PW := hide (P.later (below_two w (Obj.cells #[.int .i64 1, .int .i64 (re : Int), .int .i64 X] 67) (Obj.cells #[.int .i64 0, .int .i64 0] 97)))
  have AT := hide (fun b (hb : y.at b) => own_at_lt P.own hb)
  have GL := hide hgl
  obtain ⟨v0, v1⟩ := h8.2 re hr
  have hrl : re < d.r.length := by rw [h8.1]; exact hr
  have HRL := hide hrl
  have H8 := hide h8
  have HS := hide hs
  clear P hlt hgl hs
  go_enter Tryz.func139, Tryz.ntmps139
  go_wp2_with fail
  generalize ((w.alloc (Obj.cells #[.int .i64 1, .int .i64 (re : Int), .int .i64 X] 67)).alloc (Obj.cells #[.int .i64 0, .int .i64 0] 97)) = W0 at U PW ⊢
  have ne := Sub.ne W0.heap.size W0
  have c1 : ∀ s : Sub W0.heap.size W0, s.w.cell? ⟨g, 257, none⟩ = some (.slice (some ⟨gr, 0, none⟩) 8 rc) := fun s => by have := ((unhide PW).later s.h).r; rw [(unhide H8).1] at this; exact this
  have c2 : ∀ s : Sub W0.heap.size W0, s.w.cell? ⟨gr, re, none⟩ = some (.int .i64 (nAt d.r re)) := fun s => ((unhide PW).later s.h).cell re (unhide HRL)
  have b0 : ∀ s : Sub W0.heap.size W0, s.w.cell? ⟨w.heap.size, 0, none⟩ = some (.int .i64 1) := fun s => ((unhide U).later s.h).c0
  have b1 : ∀ s : Sub W0.heap.size W0, s.w.cell? ⟨w.heap.size, 1, none⟩ = some (.int .i64 (re : Int)) := fun s => ((unhide U).later s.h).c1
  have hri : (re : Int) < 8 := by omega
  clear h8
  refine wp_region_sub (⟨W0, Below.refl _ _⟩ : Sub W0.heap.size W0) (by kernel_rfl) (by kernel_rfl) ?_
  repeat (go_big_quiet_step (fail))
  refine wpQuiet_nil ?_
  intro s
  have US := hide ((unhide U).later s.h)
  have PS := hide ((unhide PW).later s.h)
  go_wp2_with fail
  refine (adPlace_any _ _).mono ?_
  rintro e w1 ⟨rfl, hb⟩
  have U1 := hide ((unhide US).later hb)
  have P1 := hide ((unhide PS).later hb)
  clear hb
  go_wp2_with (first | (refine wpList_store_row rfl 97 _ _ rfl (w.heap.size + 1) #[.int .i64 (-1), .int .i64 (nAt d.r re)] rfl rfl 97 #[.int .i64 0, .int .i64 0] (unhide U1).rp (by kernel_rfl) rfl (by simp [Value.oneCell']) ?_))
  obtain ⟨r1, r2⟩ := (unhide U1).done #[.int .i64 (-1), .int .i64 (nAt d.r re)]
  refine bodyPost_ret (results_row2 (P := Tryz.prog) rfl _ _ (w.heap.size + 1) 97 #[.int .i64 (-1), .int .i64 (nAt d.r re)] (0, 0) _ rfl r1 Tryz.underlying97 rfl (by kernel_rfl)) rfl ?_
  exact ⟨rfl, (unhide P1).setRow (w := w) (unhide GL) (unhide AT) (by omega) _, r2⟩
set_option maxHeartbeats 4000000 in
theorem po_2 (P : Pg w g B gr rc y d) (h8 : d.R8) (hr : re < 8) (hs : y.small) (hlt : gr < w.heap.size) (hgl : g < w.heap.size) : PoIs g B gr rc re X y w 2 (-1) (nAt d.r re) true (d.reg re ((nAt d.r re + 2) % 65536)) := by
  unfold PoIs
  have U := hide (bu_new (w := w) 2 (re : Int) X hlt)
  have PW := hide (P.later (below_two w (Obj.cells #[.int .i64 2, .int .i64 (re : Int), .int .i64 X] 67) (Obj.cells #[.int .i64 0, .int .i64 0] 97)))
  have AT := hide (fun b (hb : y.at b) => own_at_lt P.own hb)
  have GL := hide hgl
  obtain ⟨v0, v1⟩ := h8.2 re hr
  have hrl : re < d.r.length := by rw [h8.1]; exact hr
  have HRL := hide hrl
  have H8 := hide h8
  have HS := hide hs
  clear P hlt hgl hs
  go_enter Tryz.func139, Tryz.ntmps139
  go_wp2_with fail
  generalize ((w.alloc (Obj.cells #[.int .i64 2, .int .i64 (re : Int), .int .i64 X] 67)).alloc (Obj.cells #[.int .i64 0, .int .i64 0] 97)) = W0 at U PW ⊢
  have ne := Sub.ne W0.heap.size W0
  have c1 : ∀ s : Sub W0.heap.size W0, s.w.cell? ⟨g, 257, none⟩ = some (.slice (some ⟨gr, 0, none⟩) 8 rc) := fun s => by have := ((unhide PW).later s.h).r; rw [(unhide H8).1] at this; exact this
  have c2 : ∀ s : Sub W0.heap.size W0, s.w.cell? ⟨gr, re, none⟩ = some (.int .i64 (nAt d.r re)) := fun s => ((unhide PW).later s.h).cell re (unhide HRL)
  have b0 : ∀ s : Sub W0.heap.size W0, s.w.cell? ⟨w.heap.size, 0, none⟩ = some (.int .i64 2) := fun s => ((unhide U).later s.h).c0
  have b1 : ∀ s : Sub W0.heap.size W0, s.w.cell? ⟨w.heap.size, 1, none⟩ = some (.int .i64 (re : Int)) := fun s => ((unhide U).later s.h).c1
  have hri : (re : Int) < 8 := by omega
  clear h8
  refine wp_region_sub (⟨W0, Below.refl _ _⟩ : Sub W0.heap.size W0) (by kernel_rfl) (by kernel_rfl) ?_
  repeat (go_big_quiet_step (fail))
  refine wpQuiet_nil ?_
  intro s
  have US := hide ((unhide U).later s.h)
  have PS := hide ((unhide PW).later s.h)
  go_wp2_with fail
  refine (goOn_any g B gr rc re y d _ (unhide PS) (unhide HRL) v0 v1).mono ?_
  rintro e w1 ⟨rfl, p2, g2⟩
  have U1 := hide ((unhide US).past g2)
  have P1 := hide p2
  clear p2 g2
  go_wp2_with fail
  refine (adPlace_any _ _).mono ?_
  rintro e w2 ⟨rfl, hb⟩
  have U2 := hide ((unhide U1).later hb)
  have P2 := hide ((unhide P1).later hb)
  clear hb
  go_wp2_with (first | (refine wpList_store_row rfl 97 _ _ rfl (w.heap.size + 1) #[.int .i64 (-1), .int .i64 (nAt d.r re)] rfl rfl 97 #[.int .i64 0, .int .i64 0] (unhide U2).rp (by kernel_rfl) rfl (by simp [Value.oneCell']) ?_))
  obtain ⟨r1, r2⟩ := (unhide U2).done #[.int .i64 (-1), .int .i64 (nAt d.r re)]
  refine bodyPost_ret (results_row2 (P := Tryz.prog) rfl _ _ (w.heap.size + 1) 97 #[.int .i64 (-1), .int .i64 (nAt d.r re)] (0, 0) _ rfl r1 Tryz.underlying97 rfl (by kernel_rfl)) rfl ?_
  exact ⟨rfl, (unhide P2).setRow (w := w) (unhide GL) (unhide AT) (by omega) _, r2⟩
set_option maxHeartbeats 4000000 in
theorem po_4 (P : Pg w g B gr rc y d) (h8 : d.R8) (hr : re < 8) (hs : y.small) (hlt : gr < w.heap.size) (hgl : g < w.heap.size) : PoIs g B gr rc re X y w 4 (-1) ((nAt d.r re - 2) % 65536) true (d.reg re ((nAt d.r re - 2) % 65536)) := by
  unfold PoIs
  have U := hide (bu_new (w := w) 4 (re : Int) X hlt)
  have PW := hide (P.later (below_two w (Obj.cells #[.int .i64 4, .int .i64 (re : Int), .int .i64 X] 67) (Obj.cells #[.int .i64 0, .int .i64 0] 97)))
  have AT := hide (fun b (hb : y.at b) => own_at_lt P.own hb)
  have GL := hide hgl
  obtain ⟨v0, v1⟩ := h8.2 re hr
  have hrl : re < d.r.length := by rw [h8.1]; exact hr
  have HRL := hide hrl
  have H8 := hide h8
  have HS := hide hs
  clear P hlt hgl hs
  go_enter Tryz.func139, Tryz.ntmps139
  go_wp2_with fail
  generalize ((w.alloc (Obj.cells #[.int .i64 4, .int .i64 (re : Int), .int .i64 X] 67)).alloc (Obj.cells #[.int .i64 0, .int .i64 0] 97)) = W0 at U PW ⊢
  have ne := Sub.ne W0.heap.size W0
  have c1 : ∀ s : Sub W0.heap.size W0, s.w.cell? ⟨g, 257, none⟩ = some (.slice (some ⟨gr, 0, none⟩) 8 rc) := fun s => by have := ((unhide PW).later s.h).r; rw [(unhide H8).1] at this; exact this
  have c2 : ∀ s : Sub W0.heap.size W0, s.w.cell? ⟨gr, re, none⟩ = some (.int .i64 (nAt d.r re)) := fun s => ((unhide PW).later s.h).cell re (unhide HRL)
  have b0 : ∀ s : Sub W0.heap.size W0, s.w.cell? ⟨w.heap.size, 0, none⟩ = some (.int .i64 4) := fun s => ((unhide U).later s.h).c0
  have b1 : ∀ s : Sub W0.heap.size W0, s.w.cell? ⟨w.heap.size, 1, none⟩ = some (.int .i64 (re : Int)) := fun s => ((unhide U).later s.h).c1
  have hri : (re : Int) < 8 := by omega
  clear h8
  refine wp_region_sub (⟨W0, Below.refl _ _⟩ : Sub W0.heap.size W0) (by kernel_rfl) (by kernel_rfl) ?_
  repeat (go_big_quiet_step (fail))
  refine wpQuiet_nil ?_
  intro s
  have US := hide ((unhide U).later s.h)
  have PS := hide ((unhide PW).later s.h)
  go_wp2_with fail
  refine (goBack_any g B gr rc re y d _ (unhide PS) (unhide HRL) v0 v1).mono ?_
  rintro e w1 ⟨rfl, p2, g2⟩
  have U1 := hide ((unhide US).past g2)
  have P1 := hide p2
  clear p2 g2
  go_wp2_with fail
  refine (adPlace_any _ _).mono ?_
  rintro e w2 ⟨rfl, hb⟩
  have U2 := hide ((unhide U1).later hb)
  have P2 := hide ((unhide P1).later hb)
  clear hb
  go_wp2_with (first | (refine wpList_store_row rfl 97 _ _ rfl (w.heap.size + 1) #[.int .i64 (-1), .int .i64 ((nAt d.r re - 2) % 65536)] rfl rfl 97 #[.int .i64 0, .int .i64 0] (unhide U2).rp (by kernel_rfl) rfl (by simp [Value.oneCell']) ?_))
  obtain ⟨r1, r2⟩ := (unhide U2).done #[.int .i64 (-1), .int .i64 ((nAt d.r re - 2) % 65536)]
  refine bodyPost_ret (results_row2 (P := Tryz.prog) rfl _ _ (w.heap.size + 1) 97 #[.int .i64 (-1), .int .i64 ((nAt d.r re - 2) % 65536)] (0, 0) _ rfl r1 Tryz.underlying97 rfl (by kernel_rfl)) rfl ?_
  exact ⟨rfl, (unhide P2).setRow (w := w) (unhide GL) (unhide AT) (by omega) _, r2⟩
end
end Go.Proofs.YtjpbjbnialehbaaGreatDoor

namespace Go.Proofs.YtjpbjbnialehbaaGreatDoor
open Go.ChangeShapes Go.WideShapes Go.ChangeAt Go.RowKit
set_option linter.unusedVariables false
set_option maxRecDepth 8000
set_option linter.unusedSimpArgs false
section
variable (g B gr rc re : Nat) (X : Int) (y : Mv) (d : Md) (w : World)
set_option maxHeartbeats 4000000 in
theorem po_3 (P : Pg w g B gr rc y d) (h8 : d.R8) (hr : re < 8) (hs : y.small) (hlt : gr < w.heap.size) (hgl : g < w.heap.size) : PoIs g B gr rc re X y w 3 (if (d.reg re ((nAt d.r re + 2) % 65536)).has (nAt d.r re) = true then -1 else 0) (if (d.reg re ((nAt d.r re + 2) % 65536)).has (nAt d.r re) = true then (d.reg re ((nAt d.r re + 2) % 65536)).get (nAt d.r re) else 0) ((d.reg re ((nAt d.r re + 2) % 65536)).has (nAt d.r re)) (d.reg re ((nAt d.r re + 2) % 65536)) := by
  unfold PoIs
  have U := hide (bu_new (w := w) 3 (re : Int) X hlt)
  have PW := hide (P.later (below_two w (Obj.cells #[.int .i64 3, .int .i64 (re : Int), .int .i64 X] 67) (Obj.cells #[.int .i64 0, .int .i64 0] 97)))
  have AT := hide (fun b (hb : y.at b) => own_at_lt P.own hb)
  have GL := hide hgl
  obtain ⟨v0, v1⟩ := h8.2 re hr
  have hrl : re < d.r.length := by rw [h8.1]; exact hr
  have T := hide (fun w P => through_any g B gr rc (nAt d.r re) y (d.reg re ((nAt d.r re + 2) % 65536)) w P hs)
  obtain ⟨ok, hok⟩ : ∃ b, (d.reg re ((nAt d.r re + 2) % 65536)).has (nAt d.r re) = b := ⟨_, rfl⟩
  obtain ⟨rr, hrr⟩ : ∃ b : Int, (if (d.reg re ((nAt d.r re + 2) % 65536)).has (nAt d.r re) = true then -1 else 0) = b := ⟨_, rfl⟩
  obtain ⟨aa, haa⟩ : ∃ b : Int, (if (d.reg re ((nAt d.r re + 2) % 65536)).has (nAt d.r re) = true then (d.reg re ((nAt d.r re + 2) % 65536)).get (nAt d.r re) else 0) = b := ⟨_, rfl⟩
  rw [hrr, haa, hok] at T
  rw [hrr, haa, hok]
  clear hrr haa hok
  have HRL := hide hrl
  have H8 := hide h8
  have HS := hide hs
  clear P hlt hgl hs
  go_enter Tryz.func139, Tryz.ntmps139
  go_wp2_with fail
  generalize ((w.alloc (Obj.cells #[.int .i64 3, .int .i64 (re : Int), .int .i64 X] 67)).alloc (Obj.cells #[.int .i64 0, .int .i64 0] 97)) = W0 at U PW ⊢
  have ne := Sub.ne W0.heap.size W0
  have c1 : ∀ s : Sub W0.heap.size W0, s.w.cell? ⟨g, 257, none⟩ = some (.slice (some ⟨gr, 0, none⟩) 8 rc) := fun s => by have := ((unhide PW).later s.h).r; rw [(unhide H8).1] at this; exact this
  have c2 : ∀ s : Sub W0.heap.size W0, s.w.cell? ⟨gr, re, none⟩ = some (.int .i64 (nAt d.r re)) := fun s => ((unhide PW).later s.h).cell re (unhide HRL)
  have b0 : ∀ s : Sub W0.heap.size W0, s.w.cell? ⟨w.heap.size, 0, none⟩ = some (.int .i64 3) := fun s => ((unhide U).later s.h).c0
  have b1 : ∀ s : Sub W0.heap.size W0, s.w.cell? ⟨w.heap.size, 1, none⟩ = some (.int .i64 (re : Int)) := fun s => ((unhide U).later s.h).c1
  have hri : (re : Int) < 8 := by omega
  clear h8
  refine wp_region_sub (⟨W0, Below.refl _ _⟩ : Sub W0.heap.size W0) (by kernel_rfl) (by kernel_rfl) ?_
  repeat (go_big_quiet_step (fail))
  refine wpQuiet_nil ?_
  intro s
  have US := hide ((unhide U).later s.h)
  have PS := hide ((unhide PW).later s.h)
  go_wp2_with fail
  refine (goOn_any g B gr rc re y d _ (unhide PS) (unhide HRL) v0 v1).mono ?_
  rintro e w1 ⟨rfl, p2, g2⟩
  have U1 := hide ((unhide US).past g2)
  have P1 := hide p2
  clear p2 g2
  go_wp2_with fail
  refine (unhide T _ (unhide P1)).mono ?_
  rintro e w2 ⟨rfl, hb⟩
  have U2 := hide ((unhide U1).later hb)
  have P2 := hide ((unhide P1).later hb)
  clear hb
  go_wp2_with (first | (refine wpList_store_row rfl 97 _ _ rfl (w.heap.size + 1) #[.int .i64 (rr), .int .i64 (aa)] rfl rfl 97 #[.int .i64 0, .int .i64 0] (unhide U2).rp (by kernel_rfl) rfl (by simp [Value.oneCell']) ?_))
  obtain ⟨r1, r2⟩ := (unhide U2).done #[.int .i64 (rr), .int .i64 (aa)]
  refine bodyPost_ret (results_row2 (P := Tryz.prog) rfl _ _ (w.heap.size + 1) 97 #[.int .i64 (rr), .int .i64 (aa)] (0, 0) _ rfl r1 Tryz.underlying97 rfl (by kernel_rfl)) rfl ?_
  exact ⟨rfl, (unhide P2).setRow (w := w) (unhide GL) (unhide AT) (by omega) _, r2⟩
set_option maxHeartbeats 4000000 in
theorem po_5 (P : Pg w g B gr rc y d) (h8 : d.R8) (hr : re < 8) (hs : y.small) (hlt : gr < w.heap.size) (hgl : g < w.heap.size) : PoIs g B gr rc re X y w 5 (if (d.reg re ((nAt d.r re - 2) % 65536)).has ((nAt d.r re - 2) % 65536) = true then -1 else 0) (if (d.reg re ((nAt d.r re - 2) % 65536)).has ((nAt d.r re - 2) % 65536) = true then (d.reg re ((nAt d.r re - 2) % 65536)).get ((nAt d.r re - 2) % 65536) else 0) ((d.reg re ((nAt d.r re - 2) % 65536)).has ((nAt d.r re - 2) % 65536)) (d.reg re ((nAt d.r re - 2) % 65536)) := by
  unfold PoIs
  have U := hide (bu_new (w := w) 5 (re : Int) X hlt)
  have PW := hide (P.later (below_two w (Obj.cells #[.int .i64 5, .int .i64 (re : Int), .int .i64 X] 67) (Obj.cells #[.int .i64 0, .int .i64 0] 97)))
  have AT := hide (fun b (hb : y.at b) => own_at_lt P.own hb)
  have GL := hide hgl
  obtain ⟨v0, v1⟩ := h8.2 re hr
  have hrl : re < d.r.length := by rw [h8.1]; exact hr
  have T := hide (fun w P => through_any g B gr rc ((nAt d.r re - 2) % 65536) y (d.reg re ((nAt d.r re - 2) % 65536)) w P hs)
  obtain ⟨ok, hok⟩ : ∃ b, (d.reg re ((nAt d.r re - 2) % 65536)).has ((nAt d.r re - 2) % 65536) = b := ⟨_, rfl⟩
  obtain ⟨rr, hrr⟩ : ∃ b : Int, (if (d.reg re ((nAt d.r re - 2) % 65536)).has ((nAt d.r re - 2) % 65536) = true then -1 else 0) = b := ⟨_, rfl⟩
  obtain ⟨aa, haa⟩ : ∃ b : Int, (if (d.reg re ((nAt d.r re - 2) % 65536)).has ((nAt d.r re - 2) % 65536) = true then (d.reg re ((nAt d.r re - 2) % 65536)).get ((nAt d.r re - 2) % 65536) else 0) = b := ⟨_, rfl⟩
  rw [hrr, haa, hok] at T
  rw [hrr, haa, hok]
  clear hrr haa hok
  have HRL := hide hrl
  have H8 := hide h8
  have HS := hide hs
  clear P hlt hgl hs
  go_enter Tryz.func139, Tryz.ntmps139
  go_wp2_with fail
  generalize ((w.alloc (Obj.cells #[.int .i64 5, .int .i64 (re : Int), .int .i64 X] 67)).alloc (Obj.cells #[.int .i64 0, .int .i64 0] 97)) = W0 at U PW ⊢
  have ne := Sub.ne W0.heap.size W0
  have c1 : ∀ s : Sub W0.heap.size W0, s.w.cell? ⟨g, 257, none⟩ = some (.slice (some ⟨gr, 0, none⟩) 8 rc) := fun s => by have := ((unhide PW).later s.h).r; rw [(unhide H8).1] at this; exact this
  have c2 : ∀ s : Sub W0.heap.size W0, s.w.cell? ⟨gr, re, none⟩ = some (.int .i64 (nAt d.r re)) := fun s => ((unhide PW).later s.h).cell re (unhide HRL)
  have b0 : ∀ s : Sub W0.heap.size W0, s.w.cell? ⟨w.heap.size, 0, none⟩ = some (.int .i64 5) := fun s => ((unhide U).later s.h).c0
  have b1 : ∀ s : Sub W0.heap.size W0, s.w.cell? ⟨w.heap.size, 1, none⟩ = some (.int .i64 (re : Int)) := fun s => ((unhide U).later s.h).c1
  have hri : (re : Int) < 8 := by omega
  clear h8
  refine wp_region_sub (⟨W0, Below.refl _ _⟩ : Sub W0.heap.size W0) (by kernel_rfl) (by kernel_rfl) ?_
  repeat (go_big_quiet_step (fail))
  refine wpQuiet_nil ?_
  intro s
  have US := hide ((unhide U).later s.h)
  have PS := hide ((unhide PW).later s.h)
  go_wp2_with fail
  refine (goBack_any g B gr rc re y d _ (unhide PS) (unhide HRL) v0 v1).mono ?_
  rintro e w1 ⟨rfl, p2, g2⟩
  have U1 := hide ((unhide US).past g2)
  have P1 := hide p2
  clear p2 g2
  go_wp2_with fail
  refine (unhide T _ (unhide P1)).mono ?_
  rintro e w2 ⟨rfl, hb⟩
  have U2 := hide ((unhide U1).later hb)
  have P2 := hide ((unhide P1).later hb)
  clear hb
  go_wp2_with (first | (refine wpList_store_row rfl 97 _ _ rfl (w.heap.size + 1) #[.int .i64 (rr), .int .i64 (aa)] rfl rfl 97 #[.int .i64 0, .int .i64 0] (unhide U2).rp (by kernel_rfl) rfl (by simp [Value.oneCell']) ?_))
  obtain ⟨r1, r2⟩ := (unhide U2).done #[.int .i64 (rr), .int .i64 (aa)]
  refine bodyPost_ret (results_row2 (P := Tryz.prog) rfl _ _ (w.heap.size + 1) 97 #[.int .i64 (rr), .int .i64 (aa)] (0, 0) _ rfl r1 Tryz.underlying97 rfl (by kernel_rfl)) rfl ?_
  exact ⟨rfl, (unhide P2).setRow (w := w) (unhide GL) (unhide AT) (by omega) _, r2⟩
set_option maxHeartbeats 4000000 in
theorem po_6n (P : Pg w g B gr rc y d) (h8 : d.R8) (hr : re < 8) (hs : y.small) (hlt : gr < w.heap.size) (hgl : g < w.heap.size) (hx : 0 ≤ d.get (nAt d.r 7) ∧ d.get (nAt d.r 7) ≤ 65535) (hq : d.has (nAt d.r 7) = false) : PoIs g B gr rc re X y w 6 (0) (0) false (d.reg 7 ((nAt d.r 7 + 2) % 65536)) := by
  unfold PoIs
  have U := hide (bu_new (w := w) 6 (re : Int) X hlt)
  have PW := hide (P.later (below_two w (Obj.cells #[.int .i64 6, .int .i64 (re : Int), .int .i64 X] 67) (Obj.cells #[.int .i64 0, .int .i64 0] 97)))
  have AT := hide (fun b (hb : y.at b) => own_at_lt P.own hb)
  have GL := hide hgl
  obtain ⟨v0, v1⟩ := h8.2 re hr
  have hrl : re < d.r.length := by rw [h8.1]; exact hr
  have I := hide (fun w P => indexed_any g B gr rc re y d w P h8 hr hs hx)
  rw [hq] at I
  simp only [Bool.false_eq_true, if_false] at I
  clear hx hq
  have HRL := hide hrl
  have H8 := hide h8
  have HS := hide hs
  clear P hlt hgl hs
  go_enter Tryz.func139, Tryz.ntmps139
  go_wp2_with fail
  generalize ((w.alloc (Obj.cells #[.int .i64 6, .int .i64 (re : Int), .int .i64 X] 67)).alloc (Obj.cells #[.int .i64 0, .int .i64 0] 97)) = W0 at U PW ⊢
  have ne := Sub.ne W0.heap.size W0
  have c1 : ∀ s : Sub W0.heap.size W0, s.w.cell? ⟨g, 257, none⟩ = some (.slice (some ⟨gr, 0, none⟩) 8 rc) := fun s => by have := ((unhide PW).later s.h).r; rw [(unhide H8).1] at this; exact this
  have c2 : ∀ s : Sub W0.heap.size W0, s.w.cell? ⟨gr, re, none⟩ = some (.int .i64 (nAt d.r re)) := fun s => ((unhide PW).later s.h).cell re (unhide HRL)
  have b0 : ∀ s : Sub W0.heap.size W0, s.w.cell? ⟨w.heap.size, 0, none⟩ = some (.int .i64 6) := fun s => ((unhide U).later s.h).c0
  have b1 : ∀ s : Sub W0.heap.size W0, s.w.cell? ⟨w.heap.size, 1, none⟩ = some (.int .i64 (re : Int)) := fun s => ((unhide U).later s.h).c1
  have hri : (re : Int) < 8 := by omega
  clear h8
  refine wp_region_sub (⟨W0, Below.refl _ _⟩ : Sub W0.heap.size W0) (by kernel_rfl) (by kernel_rfl) ?_
  repeat (go_big_quiet_step (fail))
  refine wpQuiet_nil ?_
  intro s
  have US := hide ((unhide U).later s.h)
  have PS := hide ((unhide PW).later s.h)
  go_wp2_with fail
  refine (unhide I _ (unhide PS)).mono ?_
  rintro e w1 ⟨rfl, p2, g2⟩
  have U1 := hide ((unhide US).past g2)
  have P1 := hide p2
  clear p2 g2
  go_wp2_with (first | (refine wpList_store_row rfl 97 _ _ rfl (w.heap.size + 1) #[.int .i64 (0), .int .i64 (0)] rfl rfl 97 #[.int .i64 0, .int .i64 0] (unhide U1).rp (by kernel_rfl) rfl (by simp [Value.oneCell']) ?_))
  obtain ⟨r1, r2⟩ := (unhide U1).done #[.int .i64 (0), .int .i64 (0)]
  refine bodyPost_ret (results_row2 (P := Tryz.prog) rfl _ _ (w.heap.size + 1) 97 #[.int .i64 (0), .int .i64 (0)] (0, 0) _ rfl r1 Tryz.underlying97 rfl (by kernel_rfl)) rfl ?_
  exact ⟨rfl, (unhide P1).setRow (w := w) (unhide GL) (unhide AT) (by omega) _, r2⟩
set_option maxHeartbeats 4000000 in
theorem po_7n (P : Pg w g B gr rc y d) (h8 : d.R8) (hr : re < 8) (hs : y.small) (hlt : gr < w.heap.size) (hgl : g < w.heap.size) (hx : 0 ≤ d.get (nAt d.r 7) ∧ d.get (nAt d.r 7) ≤ 65535) (hq : d.has (nAt d.r 7) = false) : PoIs g B gr rc re X y w 7 (0) (0) false (d.reg 7 ((nAt d.r 7 + 2) % 65536)) := by
  unfold PoIs
  have U := hide (bu_new (w := w) 7 (re : Int) X hlt)
  have PW := hide (P.later (below_two w (Obj.cells #[.int .i64 7, .int .i64 (re : Int), .int .i64 X] 67) (Obj.cells #[.int .i64 0, .int .i64 0] 97)))
  have AT := hide (fun b (hb : y.at b) => own_at_lt P.own hb)
  have GL := hide hgl
  obtain ⟨v0, v1⟩ := h8.2 re hr
  have hrl : re < d.r.length := by rw [h8.1]; exact hr
  have I := hide (fun w P => indexed_any g B gr rc re y d w P h8 hr hs hx)
  rw [hq] at I
  simp only [Bool.false_eq_true, if_false] at I
  clear hx hq
  have HRL := hide hrl
  have H8 := hide h8
  have HS := hide hs
  clear P hlt hgl hs
  go_enter Tryz.func139, Tryz.ntmps139
  go_wp2_with fail
  generalize ((w.alloc (Obj.cells #[.int .i64 7, .int .i64 (re : Int), .int .i64 X] 67)).alloc (Obj.cells #[.int .i64 0, .int .i64 0] 97)) = W0 at U PW ⊢
  have ne := Sub.ne W0.heap.size W0
  have c1 : ∀ s : Sub W0.heap.size W0, s.w.cell? ⟨g, 257, none⟩ = some (.slice (some ⟨gr, 0, none⟩) 8 rc) := fun s => by have := ((unhide PW).later s.h).r; rw [(unhide H8).1] at this; exact this
  have c2 : ∀ s : Sub W0.heap.size W0, s.w.cell? ⟨gr, re, none⟩ = some (.int .i64 (nAt d.r re)) := fun s => ((unhide PW).later s.h).cell re (unhide HRL)
  have b0 : ∀ s : Sub W0.heap.size W0, s.w.cell? ⟨w.heap.size, 0, none⟩ = some (.int .i64 7) := fun s => ((unhide U).later s.h).c0
  have b1 : ∀ s : Sub W0.heap.size W0, s.w.cell? ⟨w.heap.size, 1, none⟩ = some (.int .i64 (re : Int)) := fun s => ((unhide U).later s.h).c1
  have hri : (re : Int) < 8 := by omega
  clear h8
  refine wp_region_sub (⟨W0, Below.refl _ _⟩ : Sub W0.heap.size W0) (by kernel_rfl) (by kernel_rfl) ?_
  repeat (go_big_quiet_step (fail))
  refine wpQuiet_nil ?_
  intro s
  have US := hide ((unhide U).later s.h)
  have PS := hide ((unhide PW).later s.h)
  go_wp2_with fail
  refine (unhide I _ (unhide PS)).mono ?_
  rintro e w1 ⟨rfl, p2, g2⟩
  have U1 := hide ((unhide US).past g2)
  have P1 := hide p2
  clear p2 g2
  go_wp2_with (first | (refine wpList_store_row rfl 97 _ _ rfl (w.heap.size + 1) #[.int .i64 (0), .int .i64 (0)] rfl rfl 97 #[.int .i64 0, .int .i64 0] (unhide U1).rp (by kernel_rfl) rfl (by simp [Value.oneCell']) ?_))
  obtain ⟨r1, r2⟩ := (unhide U1).done #[.int .i64 (0), .int .i64 (0)]
  refine bodyPost_ret (results_row2 (P := Tryz.prog) rfl _ _ (w.heap.size + 1) 97 #[.int .i64 (0), .int .i64 (0)] (0, 0) _ rfl r1 Tryz.underlying97 rfl (by kernel_rfl)) rfl ?_
  exact ⟨rfl, (unhide P1).setRow (w := w) (unhide GL) (unhide AT) (by omega) _, r2⟩
set_option maxHeartbeats 4000000 in
theorem po_6y (P : Pg w g B gr rc y d) (h8 : d.R8) (hr : re < 8) (hs : y.small) (hlt : gr < w.heap.size) (hgl : g < w.heap.size) (hx : 0 ≤ d.get (nAt d.r 7) ∧ d.get (nAt d.r 7) ≤ 65535) (hq : d.has (nAt d.r 7) = true) : PoIs g B gr rc re X y w 6 (-1) ((d.get (nAt d.r 7) + nAt d.fet.r re) % 65536) true (d.reg 7 ((nAt d.r 7 + 2) % 65536)) := by
  unfold PoIs
  have U := hide (bu_new (w := w) 6 (re : Int) X hlt)
  have PW := hide (P.later (below_two w (Obj.cells #[.int .i64 6, .int .i64 (re : Int), .int .i64 X] 67) (Obj.cells #[.int .i64 0, .int .i64 0] 97)))
  have AT := hide (fun b (hb : y.at b) => own_at_lt P.own hb)
  have GL := hide hgl
  obtain ⟨v0, v1⟩ := h8.2 re hr
  have hrl : re < d.r.length := by rw [h8.1]; exact hr
  have I := hide (fun w P => indexed_any g B gr rc re y d w P h8 hr hs hx)
  rw [hq] at I
  simp only [if_true] at I
  clear hx hq
  have HRL := hide hrl
  have H8 := hide h8
  have HS := hide hs
  clear P hlt hgl hs
  go_enter Tryz.func139, Tryz.ntmps139
  go_wp2_with fail
  generalize ((w.alloc (Obj.cells #[.int .i64 6, .int .i64 (re : Int), .int .i64 X] 67)).alloc (Obj.cells #[.int .i64 0, .int .i64 0] 97)) = W0 at U PW ⊢
  have ne := Sub.ne W0.heap.size W0
  have c1 : ∀ s : Sub W0.heap.size W0, s.w.cell? ⟨g, 257, none⟩ = some (.slice (some ⟨gr, 0, none⟩) 8 rc) := fun s => by have := ((unhide PW).later s.h).r; rw [(unhide H8).1] at this; exact this
  have c2 : ∀ s : Sub W0.heap.size W0, s.w.cell? ⟨gr, re, none⟩ = some (.int .i64 (nAt d.r re)) := fun s => ((unhide PW).later s.h).cell re (unhide HRL)
  have b0 : ∀ s : Sub W0.heap.size W0, s.w.cell? ⟨w.heap.size, 0, none⟩ = some (.int .i64 6) := fun s => ((unhide U).later s.h).c0
  have b1 : ∀ s : Sub W0.heap.size W0, s.w.cell? ⟨w.heap.size, 1, none⟩ = some (.int .i64 (re : Int)) := fun s => ((unhide U).later s.h).c1
  have hri : (re : Int) < 8 := by omega
  clear h8
  refine wp_region_sub (⟨W0, Below.refl _ _⟩ : Sub W0.heap.size W0) (by kernel_rfl) (by kernel_rfl) ?_
  repeat (go_big_quiet_step (fail))
  refine wpQuiet_nil ?_
  intro s
  have US := hide ((unhide U).later s.h)
  have PS := hide ((unhide PW).later s.h)
  go_wp2_with fail
  refine (unhide I _ (unhide PS)).mono ?_
  rintro e w1 ⟨rfl, p2, g2⟩
  have U1 := hide ((unhide US).past g2)
  have P1 := hide p2
  clear p2 g2
  have k0 := (unhide U1).c0
  go_wp2_with fail
  refine (adPlace_any _ _).mono ?_
  rintro e w2 ⟨rfl, hb⟩
  have U2 := hide ((unhide U1).later hb)
  have P2 := hide ((unhide P1).later hb)
  clear hb
  go_wp2_with (first | (refine wpList_store_row rfl 97 _ _ rfl (w.heap.size + 1) #[.int .i64 (-1), .int .i64 ((d.get (nAt d.r 7) + nAt d.fet.r re) % 65536)] rfl rfl 97 #[.int .i64 0, .int .i64 0] (unhide U2).rp (by kernel_rfl) rfl (by simp [Value.oneCell']) ?_))
  obtain ⟨r1, r2⟩ := (unhide U2).done #[.int .i64 (-1), .int .i64 ((d.get (nAt d.r 7) + nAt d.fet.r re) % 65536)]
  refine bodyPost_ret (results_row2 (P := Tryz.prog) rfl _ _ (w.heap.size + 1) 97 #[.int .i64 (-1), .int .i64 ((d.get (nAt d.r 7) + nAt d.fet.r re) % 65536)] (0, 0) _ rfl r1 Tryz.underlying97 rfl (by kernel_rfl)) rfl ?_
  exact ⟨rfl, (unhide P2).setRow (w := w) (unhide GL) (unhide AT) (by omega) _, r2⟩
set_option maxHeartbeats 4000000 in
theorem po_7y (P : Pg w g B gr rc y d) (h8 : d.R8) (hr : re < 8) (hs : y.small) (hlt : gr < w.heap.size) (hgl : g < w.heap.size) (hx : 0 ≤ d.get (nAt d.r 7) ∧ d.get (nAt d.r 7) ≤ 65535) (hq : d.has (nAt d.r 7) = true) : PoIs g B gr rc re X y w 7 (if (d.reg 7 ((nAt d.r 7 + 2) % 65536)).has ((d.get (nAt d.r 7) + nAt d.fet.r re) % 65536) = true then -1 else 0) (if (d.reg 7 ((nAt d.r 7 + 2) % 65536)).has ((d.get (nAt d.r 7) + nAt d.fet.r re) % 65536) = true then (d.reg 7 ((nAt d.r 7 + 2) % 65536)).get ((d.get (nAt d.r 7) + nAt d.fet.r re) % 65536) else 0) ((d.reg 7 ((nAt d.r 7 + 2) % 65536)).has ((d.get (nAt d.r 7) + nAt d.fet.r re) % 65536)) (d.reg 7 ((nAt d.r 7 + 2) % 65536)) := by
  unfold PoIs
  have U := hide (bu_new (w := w) 7 (re : Int) X hlt)
  have PW := hide (P.later (below_two w (Obj.cells #[.int .i64 7, .int .i64 (re : Int), .int .i64 X] 67) (Obj.cells #[.int .i64 0, .int .i64 0] 97)))
  have AT := hide (fun b (hb : y.at b) => own_at_lt P.own hb)
  have GL := hide hgl
  obtain ⟨v0, v1⟩ := h8.2 re hr
  have hrl : re < d.r.length := by rw [h8.1]; exact hr
  have I := hide (fun w P => indexed_any g B gr rc re y d w P h8 hr hs hx)
  rw [hq] at I
  simp only [if_true] at I
  clear hx hq
  have T := hide (fun w P => through_any g B gr rc ((d.get (nAt d.r 7) + nAt d.fet.r re) % 65536) y (d.reg 7 ((nAt d.r 7 + 2) % 65536)) w P hs)
  obtain ⟨ok, hok⟩ : ∃ b, (d.reg 7 ((nAt d.r 7 + 2) % 65536)).has ((d.get (nAt d.r 7) + nAt d.fet.r re) % 65536) = b := ⟨_, rfl⟩
  obtain ⟨rr, hrr⟩ : ∃ b : Int, (if (d.reg 7 ((nAt d.r 7 + 2) % 65536)).has ((d.get (nAt d.r 7) + nAt d.fet.r re) % 65536) = true then -1 else 0) = b := ⟨_, rfl⟩
  obtain ⟨aa, haa⟩ : ∃ b : Int, (if (d.reg 7 ((nAt d.r 7 + 2) % 65536)).has ((d.get (nAt d.r 7) + nAt d.fet.r re) % 65536) = true then (d.reg 7 ((nAt d.r 7 + 2) % 65536)).get ((d.get (nAt d.r 7) + nAt d.fet.r re) % 65536) else 0) = b := ⟨_, rfl⟩
  rw [hrr, haa, hok] at T
  rw [hrr, haa, hok]
  clear hrr haa hok
  have HRL := hide hrl
  have H8 := hide h8
  have HS := hide hs
  clear P hlt hgl hs
  go_enter Tryz.func139, Tryz.ntmps139
  go_wp2_with fail
  generalize ((w.alloc (Obj.cells #[.int .i64 7, .int .i64 (re : Int), .int .i64 X] 67)).alloc (Obj.cells #[.int .i64 0, .int .i64 0] 97)) = W0 at U PW ⊢
  have ne := Sub.ne W0.heap.size W0
  have c1 : ∀ s : Sub W0.heap.size W0, s.w.cell? ⟨g, 257, none⟩ = some (.slice (some ⟨gr, 0, none⟩) 8 rc) := fun s => by have := ((unhide PW).later s.h).r; rw [(unhide H8).1] at this; exact this
  have c2 : ∀ s : Sub W0.heap.size W0, s.w.cell? ⟨gr, re, none⟩ = some (.int .i64 (nAt d.r re)) := fun s => ((unhide PW).later s.h).cell re (unhide HRL)
  have b0 : ∀ s : Sub W0.heap.size W0, s.w.cell? ⟨w.heap.size, 0, none⟩ = some (.int .i64 7) := fun s => ((unhide U).later s.h).c0
  have b1 : ∀ s : Sub W0.heap.size W0, s.w.cell? ⟨w.heap.size, 1, none⟩ = some (.int .i64 (re : Int)) := fun s => ((unhide U).later s.h).c1
  have hri : (re : Int) < 8 := by omega
  clear h8
  refine wp_region_sub (⟨W0, Below.refl _ _⟩ : Sub W0.heap.size W0) (by kernel_rfl) (by kernel_rfl) ?_
  repeat (go_big_quiet_step (fail))
  refine wpQuiet_nil ?_
  intro s
  have US := hide ((unhide U).later s.h)
  have PS := hide ((unhide PW).later s.h)
  go_wp2_with fail
  refine (unhide I _ (unhide PS)).mono ?_
  rintro e w1 ⟨rfl, p2, g2⟩
  have U1 := hide ((unhide US).past g2)
  have P1 := hide p2
  clear p2 g2
  have k0 := (unhide U1).c0
  go_wp2_with fail
  refine (unhide T _ (unhide P1)).mono ?_
  rintro e w2 ⟨rfl, hb⟩
  have U2 := hide ((unhide U1).later hb)
  have P2 := hide ((unhide P1).later hb)
  clear hb
  go_wp2_with (first | (refine wpList_store_row rfl 97 _ _ rfl (w.heap.size + 1) #[.int .i64 (rr), .int .i64 (aa)] rfl rfl 97 #[.int .i64 0, .int .i64 0] (unhide U2).rp (by kernel_rfl) rfl (by simp [Value.oneCell']) ?_))
  obtain ⟨r1, r2⟩ := (unhide U2).done #[.int .i64 (rr), .int .i64 (aa)]
  refine bodyPost_ret (results_row2 (P := Tryz.prog) rfl _ _ (w.heap.size + 1) 97 #[.int .i64 (rr), .int .i64 (aa)] (0, 0) _ rfl r1 Tryz.underlying97 rfl (by kernel_rfl)) rfl ?_
  exact ⟨rfl, (unhide P2).setRow (w := w) (unhide GL) (unhide AT) (by omega) _, r2⟩
end
end Go.Proofs.YtjpbjbnialehbaaGreatDoor

namespace Go.Proofs.YtjpbjbnialehbaaGreatDoor
open Go.ChangeShapes Go.WideShapes Go.ChangeAt Go.RowKit
set_option linter.unusedVariables false
set_option maxRecDepth 8000
set_option linter.unusedSimpArgs false
/-- placeOf's answer, and what the machine is where it fails, too. -/
theorem po_all (g B gr rc mo re : Nat) (X : Int) (y : Mv) (d : Md) (w : World) (P : Pg w g B gr rc y d) (h8 : d.R8) (hr : re < 8) (hs : y.small) (hx : 0 ≤ d.get (nAt d.r 7) ∧ d.get (nAt d.r 7) ≤ 65535) (h7 : mo ≤ 7) (hlt : gr < w.heap.size) (hgl : g < w.heap.size) :
    ∃ d2, PoIs g B gr rc re X y w (mo : Int) (d.plR mo re) (d.plA mo re) (d.plO mo re) d2 ∧ (d.plO mo re = true → d2 = d.plD mo re) ∧ (d2 = d.plD mo re ∨ d2 = d.reg 7 ((nAt d.r 7 + 2) % 65536)) := by
  rcases (show mo = 0 ∨ mo = 1 ∨ mo = 2 ∨ mo = 3 ∨ mo = 4 ∨ mo = 5 ∨ mo = 6 ∨ mo = 7 by omega) with rfl | rfl | rfl | rfl | rfl | rfl | rfl | rfl
  · exact ⟨d.plD _ re, by simpa [Md.plR, Md.plA, Md.plO, Md.plD] using po_0 g B gr rc re X y d w P h8 hr hs hlt hgl, fun _ => rfl, .inl rfl⟩
  · exact ⟨d.plD _ re, by simpa [Md.plR, Md.plA, Md.plO, Md.plD, Md.adD, Md.adV, Md.adO, oddM] using po_1 g B gr rc re X y d w P h8 hr hs hlt hgl, fun _ => rfl, .inl rfl⟩
  · exact ⟨d.plD _ re, by simpa [Md.plR, Md.plA, Md.plO, Md.plD, Md.adD, Md.adV, Md.adO, oddM] using po_2 g B gr rc re X y d w P h8 hr hs hlt hgl, fun _ => rfl, .inl rfl⟩
  · exact ⟨d.plD _ re, by simpa [Md.plR, Md.plA, Md.plO, Md.plD, Md.adD, Md.adV, Md.adO, oddM] using po_3 g B gr rc re X y d w P h8 hr hs hlt hgl, fun _ => rfl, .inl rfl⟩
  · exact ⟨d.plD _ re, by simpa [Md.plR, Md.plA, Md.plO, Md.plD, Md.adD, Md.adV, Md.adO, oddM] using po_4 g B gr rc re X y d w P h8 hr hs hlt hgl, fun _ => rfl, .inl rfl⟩
  · exact ⟨d.plD _ re, by simpa [Md.plR, Md.plA, Md.plO, Md.plD, Md.adD, Md.adV, Md.adO, oddM] using po_5 g B gr rc re X y d w P h8 hr hs hlt hgl, fun _ => rfl, .inl rfl⟩
  · cases hq : d.has (nAt d.r 7)
    · have h := po_6n g B gr rc re X y d w P h8 hr hs hlt hgl hx hq
      exact ⟨_, by simpa [Md.plR, Md.plA, Md.plO, Md.adO, oddM, hq] using h, fun e => absurd e (by simp [Md.plO, Md.adO, hq]), .inr rfl⟩
    · have h := po_6y g B gr rc re X y d w P h8 hr hs hlt hgl hx hq
      have hf : d.fet = d.reg 7 ((nAt d.r 7 + 2) % 65536) := by unfold Md.fet; rw [if_pos hq]
      rw [← hf] at h
      exact ⟨d.plD _ re, by simpa [Md.plR, Md.plA, Md.plO, Md.plD, Md.adD, Md.adV, Md.adO, oddM, hq] using h, fun _ => rfl, .inl rfl⟩
  · cases hq : d.has (nAt d.r 7)
    · have h := po_7n g B gr rc re X y d w P h8 hr hs hlt hgl hx hq
      exact ⟨_, by simpa [Md.plR, Md.plA, Md.plO, Md.adO, oddM, hq] using h, fun e => absurd e (by simp [Md.plO, Md.adO, hq]), .inr rfl⟩
    · have h := po_7y g B gr rc re X y d w P h8 hr hs hlt hgl hx hq
      have hf : d.fet = d.reg 7 ((nAt d.r 7 + 2) % 65536) := by unfold Md.fet; rw [if_pos hq]
      rw [← hf] at h
      exact ⟨d.plD _ re, by simpa [Md.plR, Md.plA, Md.plO, Md.plD, Md.adD, Md.adV, Md.adO, oddM, hq] using h, fun _ => rfl, .inl rfl⟩
def PoIs0 (g B gr rc re : Nat) (X : Int) (y : Mv) (w : World) (mo rr aa : Int) (ok : Bool) (d2 : Md) : Prop := Calls Tryz.prog 139 #[.pointer (some ⟨g, 0, none⟩), .agg #[.int .i64 mo, .int .i64 (re : Int), .int .i64 X]] w fun e w' => e = .returned (.tuple #[.agg #[.int .i64 rr, .int .i64 aa], .bool ok]) ∧ (ok = true → Pg w' g B gr rc y d2) ∧ w.grownBy w' (some gr)
theorem po_any (g B gr rc mo re : Nat) (X : Int) (y : Mv) (d : Md) (w : World) (P : Pg w g B gr rc y d) (h8 : d.R8) (hr : re < 8) (hs : y.small) (hx : 0 ≤ d.get (nAt d.r 7) ∧ d.get (nAt d.r 7) ≤ 65535) (h7 : mo ≤ 7) (hlt : gr < w.heap.size) (hgl : g < w.heap.size) :
    PoIs0 g B gr rc re X y w (mo : Int) (d.plR mo re) (d.plA mo re) (d.plO mo re) (d.plD mo re) := by
  obtain ⟨d2, h, e, _⟩ := po_all g B gr rc mo re X y d w P h8 hr hs hx h7 hlt hgl
  unfold PoIs at h
  unfold PoIs0
  exact h.mono fun e2 w' ⟨a, b, c⟩ => ⟨a, fun ho => (e ho) ▸ b, c⟩
end Go.Proofs.YtjpbjbnialehbaaGreatDoor

namespace Go.Proofs.YtjpbjbnialehbaaGreatDoor
open Go.ChangeShapes Go.WideShapes Go.ChangeAt Go.RowKit
set_option linter.unusedVariables false
set_option maxRecDepth 8000
set_option linter.unusedSimpArgs false
/-- The machine that is handed over to be copied. -/
def xOf (s0 s1 ins : Sl) : Mv := ⟨s0, s1, false, false, false, false, ins, ⟨none, 0, 0⟩, 0⟩
structure Iq (w : World) (ins : Sl) (nn : List Int) (w' : World) (b0 b1 b2 b3 b4 b5 : Bool) (v9 v41 v42 v43 v44 v45 : Value) : Prop where
  bel : Below (w.heap.size + 1) (w.alloc (.cells zMv.cs 26)) w'
  h0 : b0 = true → ∃ g, v41 = (Sl.mk (some ⟨g, 0, none⟩) 256 256).v ∧ w'.heap[g]? = some (.cells (zA 256) 3 (0, 0))
  h1 : b1 = true → ∃ g, v42 = (Sl.mk (some ⟨g, 0, none⟩) 8 8).v ∧ w'.heap[g]? = some (.cells (zA 8) 3 (0, 0))
  h2 : b2 = true → v43 = ins.v
  h3 : b3 = true → ∃ s0 s1 : Sl, v41 = s0.v ∧ v42 = s1.v ∧ v44 = .agg (xOf s0 s1 ins).cs
  h4 : b4 = true → ∃ y : Mv, v45 = .agg (bigA z256 y) ∧ y.fl = zMv.fl ∧ OwnM w' (w.heap.size + 1) y ⟨List.replicate 256 0, List.replicate 8 0, nn, []⟩ ∧ (b5 = true → ∀ b, y.at b → v9 ≠ .pointer (some ⟨b, 0, none⟩))
  h5 : b5 = true → ∃ g, v9 = .pointer (some ⟨g, 0, none⟩) ∧ w.heap.size < g ∧ w'.heap[g]? = some (.cells (bigA z256 zMv) 44 (0, 0))
/-- What stands at its end. -/
structure Ih (w w' : World) (nn : List Int) (v9 : Value) (g9 : Nat) (mem : List Int) (y : Mv) (d : Md) : Prop where
  bel : Below (w.heap.size + 1) (w.alloc (.cells zMv.cs 26)) w'
  p9 : v9 = .pointer (some ⟨g9, 0, none⟩)
  l9 : w.heap.size < g9
  r9 : w'.heap[g9]? = some (.cells (bigA mem y) 44 (0, 0))
  own : OwnM w' (w.heap.size + 1) y d
  fl : y.fl = zMv.fl
  ne : ∀ b, y.at b → b ≠ g9
section
variable {w w' : World} {ins : Sl} {nn : List Int} {b0 b1 b2 b3 b4 b5 : Bool} {v9 v41 v42 v43 v44 v45 : Value}
theorem Iq.size (J : Iq w ins nn w' b0 b1 b2 b3 b4 b5 v9 v41 v42 v43 v44 v45) : w.heap.size + 1 ≤ w'.heap.size := by have := J.bel.size; have := alloc_size w (.cells zMv.cs 26); omega
/-- All stays behind what makes memory. -/
theorem Iq.later {w2 : World} (J : Iq w ins nn w' b0 b1 b2 b3 b4 b5 v9 v41 v42 v43 v44 v45) (hb : Below w'.heap.size w' w2) : Iq w ins nn w2 b0 b1 b2 b3 b4 b5 v9 v41 v42 v43 v44 v45 := by
  refine ⟨J.bel.trans (hb.mono J.size), fun h => ?_, fun h => ?_, J.h2, J.h3, fun h => ?_, fun h => ?_⟩
  · obtain ⟨g, e, r⟩ := J.h0 h; exact ⟨g, e, row_lat r hb⟩
  · obtain ⟨g, e, r⟩ := J.h1 h; exact ⟨g, e, row_lat r hb⟩
  · obtain ⟨y, e, f, o, n⟩ := J.h4 h; exact ⟨y, e, f, o.later hb, n⟩
  · obtain ⟨g, e, l, r⟩ := J.h5 h; exact ⟨g, e, l, row_lat r hb⟩
end
section
variable {w w' : World} {ins : Sl} {nn : List Int} {f : Nat → Bool} {v9 v41 v42 v43 v44 v45 : Value}
end
end Go.Proofs.YtjpbjbnialehbaaGreatDoor

namespace Go.Proofs.YtjpbjbnialehbaaGreatDoor
open Go.ChangeShapes Go.WideShapes Go.ChangeAt Go.RowKit
set_option linter.unusedVariables false
set_option maxRecDepth 8000
set_option linter.unusedSimpArgs false
theorem Ih.setR {w wr : World} {nn mem : List Int} {v9 : Value} {y : Mv} {g9 gr n c : Nat} {d : Md} (h : Ih w wr nn v9 g9 mem y d) (hm : y.r = ⟨some ⟨gr, 0, none⟩, n, c⟩) (k : Nat) (v : Int) (hk : k < d.r.length) : Ih w (wr.setCell ⟨gr, k, none⟩ (.int .i64 v)) nn v9 g9 mem y ⟨d.m, d.r.set k v, d.i, d.o⟩ := by
  have e : y.r.v = .slice (some ⟨gr, 0, none⟩) n c := by rw [hm]; rfl
  have o := h.own.r
  rw [e] at o
  have s := o.set k v hk
  have hat : y.at gr := .inr (.inl (by rw [e]; rfl))
  have := h.own.lo hat
  exact ⟨h.bel.setCell (p := ⟨gr, k, none⟩) this.1 _, h.p9, h.l9, row_keep h.r9 (fun e => h.ne gr hat e.symm), h.own.putR (by rw [e]; exact s.2) (by rw [e]; exact s.1), h.fl, h.ne⟩
theorem Ih.re {w wr : World} {nn mem : List Int} {v9 : Value} {y : Mv} {g9 : Nat} {d : Md} (h : Ih w wr nn v9 g9 mem y d) : wr.heap[w.heap.size]? = some (.cells zMv.cs 26 (0, 0)) := (h.bel.block w.heap.size (by omega)).trans (heap_alloc_last w _)
end Go.Proofs.YtjpbjbnialehbaaGreatDoor

namespace Go.Proofs.YtjpbjbnialehbaaGreatDoor
open Go.ChangeShapes Go.WideShapes Go.ChangeAt Go.RowKit
set_option linter.unusedVariables false
set_option maxRecDepth 8000
set_option linter.unusedSimpArgs false
/-- What came in, while the law goes on. -/
structure Lm (W wr : World) (im ins : Sl) (ni nn : List Int) : Prop where
  bel : Below W.heap.size W wr
  ri : RdN wr im.a ni
  rn : RdN wr ins.a nn
section
variable {W w w' : World} {im ins : Sl} {ni nn ns : List Int} {row : Option Nat} {y : Mv} {d : Md} {s : Sl} {B : Nat}
theorem Lm.later (h : Lm W w im ins ni nn) (hb : Below w.heap.size w w') : Lm W w' im ins ni nn := ⟨h.bel.trans (hb.mono h.bel.size), h.ri.later hb, h.rn.later hb⟩
theorem RdN.gbW {a : Option Addr} (h : RdN w a ns) (hW : RdN W a ns) (hg : w.grownBy w' row) (hb : ∀ b, row = some b → W.heap.size ≤ b) : RdN w' a ns :=
  h.pastR hg fun b e => by
    rcases hW with h0 | ⟨b', off, rfl, hb', _⟩
    · exact .inl h0
    · exact .inr fun ad e' => by cases e'; have := hb b e; show b' ≠ b; omega
theorem Lm.gb (h : Lm W w im ins ni nn) (h0 : Lm W W im ins ni nn) (hg : w.grownBy w' row) (hb : ∀ b, row = some b → W.heap.size ≤ b) : Lm W w' im ins ni nn := ⟨h.bel.grown hg h.bel.size (fun b e => hb b e), h.ri.gbW h0.ri hg hb, h.rn.gbW h0.rn hg hb⟩
theorem Lm.tch {x : Mv} (h : Lm W w im ins ni nn) (h0 : Lm W W im ins ni nn) (t : Tch w w' x) (hb : ∀ b, x.at b → W.heap.size ≤ b) : Lm W w' im ins ni nn := by
  have key : ∀ {a : Option Addr} {ns : List Int}, RdN w a ns → RdN W a ns → RdN w' a ns := fun hr hq => by
    rcases hr with e0 | ⟨b, off, rfl, hb1, hc⟩
    · exact .inl e0
    · rcases hq with e0 | ⟨b', off', e', hb', _⟩
      · exact .inl e0
      · cases e'
        exact .inr ⟨b, off, rfl, Nat.lt_of_lt_of_le hb1 t.size, fun i hi => (World.cell?_of_block (w := w) (t.block b hb1 (fun e => by have := hb b e; omega))).trans (hc i hi)⟩
  exact ⟨t.toBelow h.bel h.bel.size hb, key h.ri h0.ri, key h.rn h0.rn⟩
theorem row_gb {g : Nat} {o : Obj} (h : w.heap[g]? = some o) (hg : w.grownBy w' row) (hn : ∀ b, row = some b → g ≠ b) : w'.heap[g]? = some o := (hg.block g (row_lt h) (fun e => hn g e.symm rfl)).trans h
theorem OwnM.gb (h : OwnM w B y d) (hg : w.grownBy w' row) (hn : ∀ b, row = some b → ¬ y.at b) : OwnM w' B y d := h.keepH fun g ha hl => hg.block g hl (fun e => hn g e.symm ha)
theorem OwnN.gb (h : OwnN w B s.v ns) (hg : w.grownBy w' row) (hn : ∀ b, row = some b → s.v.ownBlock ≠ some b) : OwnN w' B s.v ns := h.keep fun g hv hl => hg.block g hl (fun e => hn g e.symm hv)
theorem OwnN.tch {x : Mv} (h : OwnN w B s.v ns) (t : Tch w w' x) (hn : ∀ b, s.v.ownBlock = some b → ¬ x.at b) : OwnN w' B s.v ns := h.keep fun g hv hl => t.block g hl (hn g hv)
end
end Go.Proofs.YtjpbjbnialehbaaGreatDoor

namespace Go.Proofs.YtjpbjbnialehbaaGreatDoor
open Go.ChangeShapes Go.WideShapes Go.ChangeAt Go.RowKit
set_option linter.unusedVariables false
set_option maxRecDepth 8000
def baseL : List Int := [0, 4096, 8192, 16384, 20480, 24576, 57344, 2560, 2688, 2752, 2816, 3008, 3200, 3264, 64, 2048, 128, 256, 512, 768, 1024, 1280, 0, 34816]
def baseAt (k : Nat) : Int := baseL.getD k 0
theorem base_bd : ∀ i : Fin 24, 0 ≤ baseAt i.val ∧ baseAt i.val ≤ 57344 := by decide +kernel
theorem base_lit (k : Nat) (hk : k < 24) : ((baseL.map (Value.int .i64)).toArray)[k]? = some (.int .i64 (baseAt k)) := by
  rw [List.getElem?_toArray, List.getElem?_map]
  have : k < baseL.length := hk
  rw [List.getElem?_eq_getElem this]
  unfold baseAt
  rw [List.getD_eq_getElem?_getD, List.getElem?_eq_getElem this]
  rfl
set_option maxHeartbeats 1000000 in
theorem base_any (k : Nat) (hk : k < 24) (w : World) : Calls Tryz.prog 97 #[.int .i64 k] w fun e w' => e = .returned (.int .i64 (baseAt k)) ∧ Below w.heap.size w w' := by
  have hl := hide (base_lit k hk)
  go_enter Tryz.func97, Tryz.ntmps97
  go_wp2
  go_ret
  have hl2 := unhide hl
  rw [List.getElem?_toArray] at hl2
  obtain ⟨_, hv⟩ := List.getElem?_eq_some_iff.1 hl2
  exact ⟨congrArg Ending.returned hv, (Below.refl _ _).alloc (Nat.le_refl _) _⟩
def Od.six (o : Od) : Int := o.m * 8 + o.r
end Go.Proofs.YtjpbjbnialehbaaGreatDoor

namespace Go.Proofs.YtjpbjbnialehbaaGreatDoor
open Go.ChangeShapes Go.WideShapes Go.ChangeAt Go.RowKit
set_option linter.unusedVariables false
set_option maxRecDepth 8000
def Is.code (i : Is) : Int :=
  if i.op ≤ 6 then baseAt i.op.toNat + i.s.six * 64 + i.d.six
  else if i.op ≤ 14 then baseAt i.op.toNat + i.d.six
  else if i.op = 15 then baseAt i.op.toNat + i.n * 64 + i.d.six
  else if i.op = 16 ∨ i.op = 23 then baseAt i.op.toNat + i.n
  else if i.op ≤ 21 then baseAt i.op.toNat + i.n % 256
  else baseAt i.op.toNat
def Is.xs (i : Is) : List Int := (if i.op ≤ 6 ∧ i.s.hasX = true then [i.s.x] else []) ++ (if i.op ≤ 15 ∧ i.d.hasX = true then [i.d.x] else [])
def Is.enc (i : Is) : List Int := if i.ok = true then i.code :: i.xs else []
theorem is_ok {i : Is} (h : i.ok = true) : (1 ≤ i.op ∧ i.op ≤ 23) ∧ (i.op ≤ 6 → i.s.ok = true) ∧ (i.op ≤ 15 → i.d.ok = true) ∧ (6 < i.op → i.s.zero = true) ∧ (15 < i.op → i.d.zero = true) ∧ (-128 ≤ i.n ∧ i.n ≤ 255) ∧ ((i.op ≤ 14 ∨ i.op = 22) → i.n = 0) ∧ ((i.op = 15 ∨ i.op = 16) → 0 ≤ i.n ∧ i.n ≤ 7) ∧ (17 ≤ i.op ∧ i.op ≤ 21 → i.n ≤ 127) ∧ (i.op = 23 → 0 ≤ i.n) := by
  unfold Is.ok at h
  simp only [inB, Bool.and_eq_true, decide_eq_true_eq, beq_iff_eq, Bool.or_eq_true, Bool.not_eq_true'] at h
  split at h
  · simp only [Bool.and_eq_true, beq_iff_eq] at h
    obtain ⟨⟨h1, h2⟩, h3⟩ := h
    refine ⟨by omega, fun _ => h1, fun _ => h2, fun _ => by omega, fun _ => by omega, by omega, fun _ => h3, fun _ => by omega, fun _ => by omega, fun _ => by omega⟩
  split at h
  · simp only [Bool.and_eq_true, beq_iff_eq] at h
    obtain ⟨⟨h1, h2⟩, h3⟩ := h
    refine ⟨by omega, fun _ => by omega, fun _ => h2, fun _ => h1, fun _ => by omega, by omega, fun _ => h3, fun _ => by omega, fun _ => by omega, fun _ => by omega⟩
  split at h
  · simp only [Bool.and_eq_true, decide_eq_true_eq] at h
    obtain ⟨⟨h1, h2⟩, h3⟩ := h
    refine ⟨by omega, fun _ => by omega, fun _ => h2, fun _ => h1, fun _ => by omega, by omega, fun _ => by omega, fun _ => by omega, fun _ => by omega, fun _ => by omega⟩
  split at h
  · cases h
  rename_i hz
  have hs : i.s.zero = true := by cases e : i.s.zero <;> simp_all
  have hd : i.d.zero = true := by cases e : i.d.zero <;> simp_all
  clear hz
  split at h
  · simp only [Bool.and_eq_true, decide_eq_true_eq] at h
    refine ⟨by omega, fun _ => by omega, fun _ => by omega, fun _ => hs, fun _ => hd, by omega, fun _ => by omega, fun _ => by omega, fun _ => by omega, fun _ => by omega⟩
  split at h
  · simp only [Bool.and_eq_true, decide_eq_true_eq] at h
    refine ⟨by omega, fun _ => by omega, fun _ => by omega, fun _ => hs, fun _ => hd, by omega, fun _ => by omega, fun _ => by omega, fun _ => by omega, fun _ => by omega⟩
  split at h
  · simp only [beq_iff_eq] at h
    refine ⟨by omega, fun _ => by omega, fun _ => by omega, fun _ => hs, fun _ => hd, by omega, fun _ => by omega, fun _ => by omega, fun _ => by omega, fun _ => by omega⟩
  split at h
  · simp only [Bool.and_eq_true, decide_eq_true_eq] at h
    refine ⟨by omega, fun _ => by omega, fun _ => by omega, fun _ => hs, fun _ => hd, by omega, fun _ => by omega, fun _ => by omega, fun _ => by omega, fun _ => by omega⟩
  · cases h
theorem alloc_cell {w : World} {p : Addr} {v : Value} (h : w.cell? p = some v) (o : Obj) : (w.alloc o).cell? p = some v :=
  ((Below.refl w.heap.size w).alloc (Nat.le_refl _) o).cell (World.block_lt_of_cell? w _ h) |>.trans h
end Go.Proofs.YtjpbjbnialehbaaGreatDoor

namespace Go.Proofs.YtjpbjbnialehbaaGreatDoor
open Go.ChangeShapes Go.WideShapes Go.ChangeAt Go.RowKit
set_option linter.unusedVariables false
set_option maxRecDepth 8000
set_option linter.unusedSimpArgs false
/-- The cursor and an answer's block, while draws go on. -/
structure Ez (w wr : World) (cb : Nat) (a : Option Addr) (len cap : Nat) (xs : List UInt8) (t n : Nat) (r : Nat → Value) : Prop where
  cur : Cur wr cb a len cap xs
  gr : w.grownBy wr (some cb)
  res : wr.rowIs w.heap.size t n r
  lt : cb < w.heap.size
  cd : xs = [] ∨ ∀ ad, a = some ad → ad.block < w.heap.size
section
variable {w wr w' : World} {cb : Nat} {a : Option Addr} {len cap : Nat} {xs : List UInt8} {t n : Nat} {r f : Nat → Value}
theorem Ez.size (h : Ez w wr cb a len cap xs t n r) : w.heap.size ≤ wr.heap.size := h.gr.size
theorem Ez.draw (h : Ez w wr cb a len cap xs t n r) (hc : Cur w' cb a len cap xs) (hg : wr.grownBy w' (some cb)) : Ez w w' cb a len cap xs t n r :=
  ⟨hc, grownBy_trans h.gr hg, h.res.of_block (hg.block _ h.res.lt (fun e => by have := h.lt; simp at e; omega)), h.lt, h.cd⟩
theorem Ez.later (h : Ez w wr cb a len cap xs t n r) (hb : Below wr.heap.size wr w') : Ez w w' cb a len cap xs t n r :=
  h.draw (h.cur.later hb) (grownBy_below hb)
theorem Ez.alloc (h : Ez w wr cb a len cap xs t n r) (o : Obj) : Ez w (wr.alloc o) cb a len cap xs t n r :=
  h.later ((Below.refl _ _).alloc (Nat.le_refl _) o)
theorem Ez.setR (h : Ez w wr cb a len cap xs t n r) (k : Nat) (v : Value) (r' : Nat → Value) (he : (wr.setCell ⟨w.heap.size, k, none⟩ v).rowIs w.heap.size t n r') : Ez w (wr.setCell ⟨w.heap.size, k, none⟩ v) cb a len cap xs t n r' :=
  ⟨h.cur.past (grownBy_set v) h.lt h.cd (fun g e => by cases e; omega), grownBy_own h.gr (grownBy_set v) (fun g e => by cases e; omega), he, h.lt, h.cd⟩
end
end Go.Proofs.YtjpbjbnialehbaaGreatDoor

namespace Go.Proofs.YtjpbjbnialehbaaGreatDoor
open Go.ChangeShapes Go.WideShapes Go.ChangeAt Go.RowKit
set_option linter.unusedVariables false
set_option maxRecDepth 8000
set_option linter.unusedSimpArgs false
def Wd (ns : List Int) : Prop := ∀ x ∈ ns, 0 ≤ x ∧ x ≤ 65535
theorem nAt_mem {ns : List Int} {i : Nat} (h : i < ns.length) : nAt ns i ∈ ns := by
  unfold nAt
  rw [List.getD_eq_getElem?_getD, List.getElem?_eq_getElem h]
  exact List.getElem_mem h
end Go.Proofs.YtjpbjbnialehbaaGreatDoor

namespace Go.Proofs.YtjpbjbnialehbaaGreatDoor
open Go.ChangeShapes Go.WideShapes Go.ChangeAt Go.RowKit
set_option linter.unusedVariables false
set_option maxRecDepth 8000
set_option linter.unusedSimpArgs false
theorem Wd.set {ns : List Int} (h : Wd ns) (k : Nat) (v : Int) (h0 : 0 ≤ v) (h1 : v ≤ 65535) : Wd (ns.set k v) := fun x hx => by
  rcases List.mem_or_eq_of_mem_set hx with h' | h'
  · exact h x h'
  · omega
theorem wdB_of {ns : List Int} (h : Wd ns) : wdB ns = true := by
  unfold wdB
  rw [List.all_eq_true]
  intro x hx
  have := h x hx
  exact inB_t _ _ _ this
theorem Wd.of {ns : List Int} (h : wdB ns = true) : Wd ns := fun x hx => by
  unfold wdB at h
  rw [List.all_eq_true] at h
  exact inB_b (h x hx)
/-- A machine's lists are right. -/
structure Dk (d : Md) : Prop where
  ml : d.m.length = 256
  mw : Wd d.m
  rl : d.r.length = 8
  rw : Wd d.r
  il : d.i.length ≤ 50
  iw : Wd d.i
  ol : d.o.length ≤ 50
  ow : Wd d.o
theorem Dk.ok {d : Md} (h : Dk d) (st : Int) (h0 : 0 ≤ st) (h1 : st ≤ 2) : d.ok st = true := by
  unfold Md.ok
  rw [h.ml, h.rl, wdB_of h.mw, wdB_of h.rw, wdB_of h.iw, wdB_of h.ow, decide_eq_true (show (d.i.length : Int) ≤ 50 by have := h.il; omega), decide_eq_true (show (d.o.length : Int) ≤ 50 by have := h.ol; omega), inB_t st 0 2 ⟨h0, h1⟩]
  rfl
theorem Dk.setM {d : Md} (h : Dk d) (k : Nat) (v : Int) (h0 : 0 ≤ v) (h1 : v ≤ 65535) : Dk ⟨d.m.set k v, d.r, d.i, d.o⟩ := { h with ml := by simp [h.ml], mw := h.mw.set k v h0 h1 }
theorem Dk.setR {d : Md} (h : Dk d) (k : Nat) (v : Int) (h0 : 0 ≤ v) (h1 : v ≤ 65535) : Dk ⟨d.m, d.r.set k v, d.i, d.o⟩ := { h with rl := by simp [h.rl], rw := h.rw.set k v h0 h1 }
theorem Dk.small {d : Md} (h : Dk d) : d.small := ⟨by have := h.ml; omega, by have := h.rl; omega, by have := h.il; omega, by have := h.ol; omega⟩
theorem Wd.over {ns im : List Int} (h : Wd ns) (k : Nat) (hi : Wd im) : Wd (over ns k im) := fun x hx => by
  unfold Go.Proofs.YtjpbjbnialehbaaGreatDoor.over at hx
  rcases List.mem_append.1 hx with h1 | h1
  · exact h x (List.mem_of_mem_take h1)
  · rcases List.mem_append.1 h1 with h2 | h2
    · exact hi x h2
    · exact h x (List.mem_of_mem_drop h2)
/-- The cursor, the answer's place, the machine and its lists, while draws go on. -/
structure Ed (w wr : World) (cb : Nat) (a : Option Addr) (len cap : Nat) (xs : List UInt8) (y : Mv) (g5 : Nat) (d : Md) : Prop where
  cur : Cur wr cb a len cap xs
  gr : w.grownBy wr (some cb)
  re : wr.heap[w.heap.size]? = some (.cells zMv.cs 26 (0, 0))
  r5 : wr.heap[g5]? = some (.cells y.cs 26 (0, 0))
  own : OwnM wr (w.heap.size + 1) y d
  l5 : w.heap.size < g5
  ne : ∀ b, y.at b → b ≠ g5
  lt : cb < w.heap.size
  cd : xs = [] ∨ ∀ ad, a = some ad → ad.block < w.heap.size
section
variable {w wr w' : World} {cb : Nat} {a : Option Addr} {len cap : Nat} {xs : List UInt8} {y : Mv} {g5 gm gr n c : Nat} {d : Md}
theorem Ed.draw (h : Ed w wr cb a len cap xs y g5 d) (hc : Cur w' cb a len cap xs) (hg : wr.grownBy w' (some cb)) : Ed w w' cb a len cap xs y g5 d :=
  { h with
    cur := hc
    gr := grownBy_trans h.gr hg
    re := row_gb h.re hg (fun b e => by cases e; have := h.lt; omega)
    r5 := row_gb h.r5 hg (fun b e => by cases e; have := h.lt; have := h.l5; omega)
    own := h.own.gb hg (fun b e hb => by cases e; have := h.lt; have := (h.own.lo hb).1; omega) }
theorem Ed.later (h : Ed w wr cb a len cap xs y g5 d) (hb : Below wr.heap.size wr w') : Ed w w' cb a len cap xs y g5 d := h.draw (h.cur.later hb) (grownBy_below hb)
theorem Ed.alloc (h : Ed w wr cb a len cap xs y g5 d) (o : Obj) : Ed w (wr.alloc o) cb a len cap xs y g5 d := h.later (below_new _ _)
theorem Ed.write (h : Ed w wr cb a len cap xs y g5 d) {b k : Nat} (hb : w.heap.size < b) (hb5 : b ≠ g5) {v : Value} {d' : Md} (ho : OwnM (wr.setCell ⟨b, k, none⟩ v) (w.heap.size + 1) y d') : Ed w (wr.setCell ⟨b, k, none⟩ v) cb a len cap xs y g5 d' :=
  { h with
    cur := h.cur.past (grownBy_set v) h.lt h.cd (fun g e => by cases e; omega)
    gr := grownBy_own h.gr (grownBy_set v) (fun g e => by cases e; omega)
    re := row_keep h.re (by omega)
    r5 := row_keep h.r5 (fun e => hb5 e.symm)
    own := ho }
theorem Ed.setM (h : Ed w wr cb a len cap xs y g5 d) (hm : y.m = ⟨some ⟨gm, 0, none⟩, n, c⟩) (k : Nat) (v : Int) (hk : k < d.m.length) : Ed w (wr.setCell ⟨gm, k, none⟩ (.int .i64 v)) cb a len cap xs y g5 ⟨d.m.set k v, d.r, d.i, d.o⟩ := by
  have e : y.m.v = .slice (some ⟨gm, 0, none⟩) n c := by rw [hm]; rfl
  have o := h.own.m
  rw [e] at o
  have s := o.set k v hk
  have hat : y.at gm := .inl (by rw [e]; rfl)
  have := h.own.lo hat
  exact h.write (by omega) (h.ne gm hat) (h.own.putM (by rw [e]; exact s.2) (by rw [e]; exact s.1))
theorem Ed.setR (h : Ed w wr cb a len cap xs y g5 d) (hm : y.r = ⟨some ⟨gr, 0, none⟩, n, c⟩) (k : Nat) (v : Int) (hk : k < d.r.length) : Ed w (wr.setCell ⟨gr, k, none⟩ (.int .i64 v)) cb a len cap xs y g5 ⟨d.m, d.r.set k v, d.i, d.o⟩ := by
  have e : y.r.v = .slice (some ⟨gr, 0, none⟩) n c := by rw [hm]; rfl
  have o := h.own.r
  rw [e] at o
  have s := o.set k v hk
  have hat : y.at gr := .inr (.inl (by rw [e]; rfl))
  have := h.own.lo hat
  exact h.write (by omega) (h.ne gr hat) (h.own.putR (by rw [e]; exact s.2) (by rw [e]; exact s.1))
/-- A field of the machine itself written, no list among them. -/
theorem Ed.setF (h : Ed w wr cb a len cap xs y g5 d) (j : Nat) (v : Value) (y' : Mv) (he : y.cs.setIfInBounds j v = y'.cs) (em : y'.m = y.m) (er : y'.r = y.r) (ei : y'.i = y.i) (eo : y'.o = y.o) : Ed w (wr.setCell ⟨g5, j, none⟩ v) cb a len cap xs y' g5 d := by
  have hat : ∀ b, y'.at b → y.at b := fun b hb => by unfold Mv.at at hb ⊢; rw [em, er, ei, eo] at hb; exact hb
  have o2 : OwnM (wr.setCell ⟨g5, j, none⟩ v) (w.heap.size + 1) y d := h.own.keepH fun b hb _ => Below.heap_setCell wr ⟨g5, j, none⟩ v b (h.ne b hb)
  refine { h with cur := h.cur.past (grownBy_set v) h.lt h.cd (fun g e => by cases e; have := h.l5; omega), gr := grownBy_own h.gr (grownBy_set v) (fun g e => by cases e; have := h.l5; omega), re := row_keep h.re (by have := h.l5; omega), r5 := row_put h.r5 j v y' he, own := ?_, ne := fun b hb => h.ne b (hat b hb) }
  obtain ⟨o1, o3, o4, o5, a1, a2, a3, a4, a5, a6⟩ := o2
  exact ⟨by rw [em]; exact o1, by rw [er]; exact o3, by rw [ei]; exact o4, by rw [eo]; exact o5, by rw [em, er]; exact a1, by rw [em, ei]; exact a2, by rw [em, eo]; exact a3, by rw [er, ei]; exact a4, by rw [er, eo]; exact a5, by rw [ei, eo]; exact a6⟩
end
end Go.Proofs.YtjpbjbnialehbaaGreatDoor

namespace Go.Proofs.YtjpbjbnialehbaaGreatDoor
open Go.ChangeShapes Go.WideShapes Go.ChangeAt Go.RowKit
set_option linter.unusedVariables false
set_option maxRecDepth 8000
set_option linter.unusedSimpArgs false
theorem Dk.regS {d : Md} (h : Dk d) (k : Nat) (v : Int) : Dk (d.reg k (v % 65536)) := h.setR k _ (by omega) (by omega)
theorem dk_plS {d : Md} (h : Dk d) (mo re : Nat) : Dk (d.plD mo re) := by
  unfold Md.plD Md.adD Md.fet
  repeat' split
  all_goals first | exact h | exact h.regS _ _
theorem dk_stS {d : Md} (h : Dk d) (r p n : Int) : Dk (d.stD r p n) := by
  unfold Md.stD Md.put
  repeat' split
  all_goals first | exact h | exact h.setM _ _ (by omega) (by omega) | exact h.setR _ _ (by omega) (by omega)
theorem Dk.r8 {d : Md} (h : Dk d) : d.R8 := ⟨h.rl, fun j hj => h.rw _ (nAt_mem (by have := h.rl; omega))⟩
theorem Dk.getb {d : Md} (h : Dk d) (a : Int) : 0 ≤ d.get a ∧ d.get a ≤ 65535 := by
  unfold Md.get
  split
  · rename_i hh
    obtain ⟨ha, hl⟩ := has_t hh
    obtain ⟨a0, _, _⟩ := adB_t ha
    exact h.mw _ (nAt_mem (by omega))
  · omega
theorem Dk.ldb {d : Md} (h : Dk d) (r a : Int) : 0 ≤ d.ldV r a ∧ d.ldV r a ≤ 65535 := by
  unfold Md.ldV
  split
  · exact h.getb a
  · split
    · rename_i h1 h2
      unfold Md.ldB at h2
      rw [if_neg h1] at h2
      simp only [Bool.and_eq_true] at h2
      obtain ⟨b3, b4⟩ := inB_b h2.1
      exact h.rw _ (nAt_mem (by omega))
    · omega
/-- A word's sign. -/
def sgB (n : Int) : Bool := decide (32768 ≤ n % 65536)
/-- What a machine holds, but for how it stands. -/
structure Ms where
  d : Md
  n : Bool
  z : Bool
  v : Bool
  c : Bool
def Ms.fl (t : Ms) (st : Int) : Bool × Bool × Bool × Bool × Int := (t.n, t.z, t.v, t.c, st)
/-- The machine at a pointer. -/
structure Sm (w : World) (B g : Nat) (y : Mv) (t : Ms) (st : Int) : Prop where
  row : w.heap[g]? = some (.cells y.cs 26 (0, 0))
  own : OwnM w B y t.d
  fl : y.fl = t.fl st
  lo : B ≤ g
  ne : ∀ b, y.at b → b ≠ g
section
variable {w w' : World} {B g : Nat} {y : Mv} {t : Ms} {st : Int}
theorem Sm.later (h : Sm w B g y t st) (hb : Below w.heap.size w w') : Sm w' B g y t st := ⟨row_lat h.row hb, h.own.later hb, h.fl, h.lo, h.ne⟩
/-- A field of the machine itself written, no list among them. -/
theorem Sm.setF (h : Sm w B g y t st) (j : Nat) (v : Value) (y' : Mv) (t' : Ms) (st' : Int) (he : y.cs.setIfInBounds j v = y'.cs) (em : y'.m = y.m) (er : y'.r = y.r) (ei : y'.i = y.i) (eo : y'.o = y.o) (hd : t'.d = t.d) (hf : y'.fl = t'.fl st') : Sm (w.setCell ⟨g, j, none⟩ v) B g y' t' st' := by
  have hat : ∀ b, y'.at b → y.at b := fun b hb => by unfold Mv.at at hb ⊢; rw [em, er, ei, eo] at hb; exact hb
  have o2 : OwnM (w.setCell ⟨g, j, none⟩ v) B y t.d := h.own.keepH fun b hb _ => Below.heap_setCell w ⟨g, j, none⟩ v b (h.ne b hb)
  refine ⟨row_put h.row j v y' he, ?_, hf, h.lo, fun b hb => h.ne b (hat b hb)⟩
  rw [hd]
  obtain ⟨o1, o3, o4, o5, a1, a2, a3, a4, a5, a6⟩ := o2
  exact ⟨by rw [em]; exact o1, by rw [er]; exact o3, by rw [ei]; exact o4, by rw [eo]; exact o5, by rw [em, er]; exact a1, by rw [em, ei]; exact a2, by rw [em, eo]; exact a3, by rw [er, ei]; exact a4, by rw [er, eo]; exact a5, by rw [ei, eo]; exact a6⟩
theorem Sm.below (h : Sm w B g y t st) (j : Nat) (v : Value) : Below B w (w.setCell ⟨g, j, none⟩ v) := (Below.refl B w).setCell (p := ⟨g, j, none⟩) h.lo v
end
/-- What a change of the machine at a pointer leaves: all but its own row and lists. -/
structure Fm (w w' : World) (g : Nat) (y y' : Mv) : Prop where
  os : w'.os = w.os
  tape : w'.tape = w.tape
  output : w'.output = w.output
  size : w.heap.size ≤ w'.heap.size
  blk : ∀ k, k < w.heap.size → k ≠ g → ¬ y.at k → w'.heap[k]? = w.heap[k]?
  new : ∀ b, y'.at b → y.at b ∨ w.heap.size ≤ b
section
variable {w w1 w2 : World} {g : Nat} {y y1 y2 : Mv}
theorem Fm.trans (h : Fm w w1 g y y1) (k : Fm w1 w2 g y1 y2) : Fm w w2 g y y2 :=
  ⟨k.os.trans h.os, k.tape.trans h.tape, k.output.trans h.output, Nat.le_trans h.size k.size,
   fun b hb hg hy => (k.blk b (Nat.lt_of_lt_of_le hb h.size) hg (fun e => (h.new b e).elim hy (fun l => by omega))).trans (h.blk b hb hg hy),
   fun b hb => (k.new b hb).elim (fun e => h.new b e) (fun l => .inr (Nat.le_trans h.size l))⟩
theorem Fm.of (h : Below w.heap.size w w1) : Fm w w1 g y y := ⟨h.os, h.tape, h.output, h.size, fun k hk _ _ => h.block k hk, fun b hb => .inl hb⟩
theorem Fm.grown {b : Nat} (h : w.grownBy w1 (some b)) (hb : b = g ∨ y.at b) (ha : ∀ k, y1.at k → y.at k) : Fm w w1 g y y1 :=
  ⟨h.os, h.tape, h.output, h.size, fun k hk hg hy => h.block k hk (fun e => by cases e; exact hb.elim hg hy), fun k hk => .inl (ha k hk)⟩
theorem Fm.over {C : Nat} {d2 : Md} (h : Below w.heap.size w w1) (o2 : OwnM w1 C y2 d2) (hC : w.heap.size ≤ C) (cs : Array Value) : Fm w (w1.setRow g cs) g y y2 :=
  ⟨h.os, h.tape, h.output, by rw [setRow_size]; exact h.size, fun k hk hg _ => (setRow_other w1 g k cs hg).trans (h.block k hk), fun b hb => .inr (Nat.le_trans hC (o2.lo hb).1)⟩
theorem Fm.row {k : Nat} {o : Obj} (h : Fm w w1 g y y1) (hr : w.heap[k]? = some o) (hg : k ≠ g) (hy : ¬ y.at k) : w1.heap[k]? = some o := (h.blk k (row_lt hr) hg hy).trans hr
theorem Fm.bel {B : Nat} (h : Fm w w1 g y y1) (hB : B ≤ w.heap.size) (hg : B ≤ g) (hy : ∀ b, y.at b → B ≤ b) : Below B w w1 :=
  ⟨h.os, h.tape, h.output, h.size, fun k hk => h.blk k (by omega) (by omega) (fun e => by have := hy k e; omega)⟩
end
theorem sign_any (n : Int) (w : World) : Calls Tryz.prog 125 #[.int .i64 n] w fun e w' => e = .returned (.bool (sgB n)) ∧ w' = w := by
  have WR := hide (fun w => wrapS_any n w)
  unfold sgB
  generalize n % 65536 = q at WR ⊢
  go_enter Tryz.func125, Tryz.ntmps125
  go_wp2_with fail
  refine (unhide WR _).mono ?_
  rintro e w' ⟨rfl, rfl⟩
  go_wp2
  go_ret
  exact ⟨rfl, rfl⟩
def Ms.nz (t : Ms) (r : Int) (v : Bool) : Ms := { t with n := sgB r, z := (r % 65536 == 0), v := v }
def Mv.nzv (y : Mv) (r : Int) (v : Bool) : Mv := { y with n := sgB r, z := (r % 65536 == 0), v := v }
set_option maxHeartbeats 2000000 in
theorem nz_any (B g : Nat) (y : Mv) (t : Ms) (st : Int) (r : Int) (v : Bool) (w : World) (h : Sm w B g y t st) :
    Calls Tryz.prog 123 #[.pointer (some ⟨g, 0, none⟩), .int .i64 r, .bool v] w fun e w' => e = .returned (.tuple #[]) ∧ Sm w' B g (y.nzv r v) (t.nz r v) st ∧ Fm w w' g y (y.nzv r v) := by
  have SG := hide (fun w => sign_any r w)
  have WR := hide (fun w => wrapS_any r w)
  have H := hide h
  unfold Mv.nzv Ms.nz
  generalize sgB r = q1 at SG ⊢
  generalize r % 65536 = q2 at WR ⊢
  clear h
  have c2 := row_n (unhide H).row
  have f2 := row_fz (unhide H).row 2
  go_enter Tryz.func123, Tryz.ntmps123
  go_wp2_with fail
  refine (unhide SG _).mono ?_
  rintro e w' ⟨rfl, hw'⟩
  rw [hw']
  clear hw' w'
  have H1 := hide ((unhide H).setF 2 (.bool q1) { y with n := q1 } { t with n := q1 } st rfl rfl rfl rfl rfl rfl (by have := (unhide H).fl; unfold Mv.fl Ms.fl at *; simp at *; exact ⟨this.2.1, this.2.2⟩))
  have c3 := row_z (unhide H1).row
  have f3 := row_fz (unhide H1).row 3
  go_wp2_with fail
  refine (unhide WR _).mono ?_
  rintro e w' ⟨rfl, hw'⟩
  rw [hw']
  clear hw' w'
  have H2 := hide ((unhide H1).setF 3 (.bool (q2 == 0)) { y with n := q1, z := (q2 == 0) } { t with n := q1, z := (q2 == 0) } st rfl rfl rfl rfl rfl rfl (by have := (unhide H1).fl; unfold Mv.fl Ms.fl at *; simp at *; exact this.2))
  have c4 := row_v (unhide H2).row
  have f4 := row_fz (unhide H2).row 4
  have H3 := hide ((unhide H2).setF 4 (.bool v) { y with n := q1, z := (q2 == 0), v := v } { t with n := q1, z := (q2 == 0), v := v } st rfl rfl rfl rfl rfl rfl (by have := (unhide H2).fl; unfold Mv.fl Ms.fl at *; simp at *; exact this.2))
  have B3 := hide (Fm.grown (y := y) (y1 := { y with n := q1, z := (q2 == 0), v := v }) (grownBy_trans (grownBy_trans (grownBy_set (w := w) (b := g) (o := 2) (.bool q1)) (grownBy_set (b := g) (o := 3) (.bool (q2 == 0)))) (grownBy_set (b := g) (o := 4) (.bool v))) (.inl rfl) (fun k hk => (hk : y.at k)))
  clear c2 f2
  go_wp2
  go_end0
  exact ⟨rfl, unhide H3, unhide B3⟩
end Go.Proofs.YtjpbjbnialehbaaGreatDoor
