/- Contracts over this seat's translation, laid together; conditions stand as hypotheses of each. -/
import Derived.Test.YtboedaofbchdkaaGreatDoorRsE
namespace Go.Proofs.YtboedaofbchdkaaGreatDoor
open Go.ChangeShapes Go.WideShapes Go.ChangeAt Go.RowKit
set_option maxHeartbeats 16000000
set_option linter.unusedVariables false
set_option maxRecDepth 8000
set_option linter.unusedSimpArgs false
section
def oddM (mo : Nat) : Bool := mo == 3 || (mo == 5 || mo == 7)
def Md.plD (d : Md) (mo re : Nat) : Md := if mo = 0 then d else d.adD mo re
def Md.plO (d : Md) (mo re : Nat) : Bool := if mo = 0 then true else (d.adO mo re && (!oddM mo || (d.adD mo re).has (d.adV mo re)))
def Md.plR (d : Md) (mo re : Nat) : Int := if mo = 0 then (re : Int) else if d.plO mo re = true then -1 else 0
def Md.plA (d : Md) (mo re : Nat) : Int := if mo = 0 then -1 else if d.plO mo re = true then (if oddM mo = true then (d.adD mo re).get (d.adV mo re) else d.adV mo re) else 0
theorem own_at_lt {w : World} {B b : Nat} {x : Mv} {d : Md} (h : OwnM w B x d) (hb : x.at b) : b < w.heap.size := by
 rcases hb with h1 | h1 | h1 | h1
 · exact (h.m.lt h1).2
 · exact (h.r.lt h1).2
 · exact (h.i.lt h1).2
 · exact (h.o.lt h1).2
theorem grown_setRow {w w1 : World} {o : Option Nat} {b : Nat} (h : w.grownBy w1 o) (hb : w.heap.size ≤ b) (cs : Array Value) : w.grownBy (w1.setRow b cs) o :=
 ⟨h.os, h.tape, h.output, by rw [setRow_size]; exact h.size, fun k hk hne => (setRow_other w1 b k cs (by omega)).trans (h.block k hk hne)⟩
theorem Pm.setRow {w w1 : World} {g B gr rc b : Nat} {x : Mv} {d : Md} (h : Pm w1 g B gr rc x d) (hg : g < w.heap.size) (ha : ∀ b, x.at b → b < w.heap.size) (hb : w.heap.size ≤ b) (cs : Array Value) : Pm (w1.setRow b cs) g B gr rc x d :=
 ⟨(setRow_other w1 b g cs (by omega)).trans h.row, h.own.keepH fun k hk _ => setRow_other w1 b k cs (by have := ha k hk; omega), h.er, h.ne⟩
section
variable (g B gr rc re : Nat) (X : Int) (x : Mv) (d : Md) (w : World)
def AtP (mo : Int) (v : Int) (ok : Bool) (d2 : Md) : Prop := ∀ wb, Pm wb g B gr rc x d → Calls Tryz.prog 49 #[.pointer (some ⟨g, 0, none⟩), .agg #[.int .i64 mo, .int .i64 (re : Int), .int .i64 X]] wb fun e w' => e = .returned (.tuple #[.int .i64 v, .bool ok]) ∧ Pm w' g B gr rc x d2 ∧ wb.grownBy w' (some gr)
def PlP (mo : Int) (rr aa : Int) (ok : Bool) (d2 : Md) : Prop := Calls Tryz.prog 31 #[.pointer (some ⟨g, 0, none⟩), .agg #[.int .i64 mo, .int .i64 (re : Int), .int .i64 X]] w fun e w' => e = .returned (.tuple #[.agg #[.int .i64 rr, .int .i64 aa], .bool ok]) ∧ Pm w' g B gr rc x d2 ∧ w.grownBy w' (some gr)
theorem plN_1 (P : Pm w g B gr rc x d) (hs : x.small) (v : Int) (d2 : Md) (A : AtP g B gr rc re X x d 1 v false d2) : PlP g B gr rc re X x w 1 0 0 false d2 := by
 have bel : Below w.heap.size w ((w.alloc (.cells #[.int .i64 1, .int .i64 (re : Int), .int .i64 X] 46)).alloc (.cells #[.int .i64 0, .int .i64 0] 57)) := ((Below.refl _ _).alloc (Nat.le_refl _) _).alloc (by simp) _
 have PB := hide (P.later bel)
 have GL := hide (row_lt P.row)
 have AT := hide (fun b (hb : x.at b) => own_at_lt P.own hb)
 have glt := own_rlt P.own P.er
 have GN := hide (And.intro (show gr ≠ w.heap.size by omega) (show gr ≠ w.heap.size + 1 by omega))
 have BX := hide (show ((w.alloc (.cells #[.int .i64 1, .int .i64 (re : Int), .int .i64 X] 46)).alloc (.cells #[.int .i64 0, .int .i64 0] 57)).heap[w.heap.size]? = some (.cells #[.int .i64 1, .int .i64 (re : Int), .int .i64 X] 46 (0, 0)) from row_lat (heap_alloc_last w _) (below_new _ _))
 have RB := hide (show ((w.alloc (.cells #[.int .i64 1, .int .i64 (re : Int), .int .i64 X] 46)).alloc (.cells #[.int .i64 0, .int .i64 0] 57)).heap[w.heap.size + 1]? = some (.cells #[.int .i64 0, .int .i64 0] 57 (0, 0)) by have := heap_alloc_last (w.alloc (.cells #[.int .i64 1, .int .i64 (re : Int), .int .i64 X] 46)) (.cells #[.int .i64 0, .int .i64 0] 57); simpa using this)
 have GW := hide (show w.grownBy ((w.alloc (.cells #[.int .i64 1, .int .i64 (re : Int), .int .i64 X] 46)).alloc (.cells #[.int .i64 0, .int .i64 0] 57)) (some gr) from (World.grownBy_alloc w _ _).trans (World.grownBy_alloc _ _ _))
 unfold PlP
 clear bel P glt
 go_enter Tryz.func31, Tryz.ntmps31
 go_wp2_with fail
 generalize hbo : w.heap.size = bo at BX RB GN ⊢
 have HBO := hide hbo
 generalize hwb : (w.alloc (Obj.cells #[.int .i64 1, .int .i64 (re : Int), .int .i64 X] 46)).alloc (Obj.cells #[.int .i64 0, .int .i64 0] 57) = wb at PB BX RB GW ⊢
 clear hbo hwb
 refine (A wb (uh PB)).mono ?_
 rintro e w2 ⟨rfl, p2, g2⟩
 have T_ := hide (row_past (uh BX) g2 (uh GN).1)
 clear BX
 have BX := hide (uh T_)
 clear T_
 have T_ := hide (row_past (uh RB) g2 (uh GN).2)
 clear RB
 have RB := hide (uh T_)
 clear T_
 have P2 := hide p2
 have G2 := hide ((uh GW).trans g2)
 have b0 : w2.cell? ⟨bo, 0, none⟩ = some (.int .i64 1) := (cell_of_row _ _ 0 _ 46 _ (uh BX)).trans rfl
 clear p2 g2 GW PB A GN
 go_wp2_with (refine wpList_store_row rfl 57 _ _ rfl (bo + 1) #[.int .i64 0, .int .i64 0] rfl rfl 57 #[.int .i64 0, .int .i64 0] (uh RB) (by kernel_rfl) rfl (by simp [Value.oneCell']) ?_)
 refine bodyPost_ret (results_row2 (P := Tryz.prog) rfl _ _ (bo + 1) 57 #[.int .i64 0, .int .i64 0] (0, 0) _ rfl (setRow_heap _ _ _ _ 57 _ (uh RB)) Tryz.underlying57 rfl (by kernel_rfl)) rfl ?_
 exact ⟨rfl, (uh P2).setRow (w := w) (uh GL) (uh AT) (by have := uh HBO; omega) _, grown_setRow (uh G2) (by have := uh HBO; omega) _⟩
theorem plY_1 (P : Pm w g B gr rc x d) (hs : x.small) (v : Int) (d2 : Md) (A : AtP g B gr rc re X x d 1 v true d2) : PlP g B gr rc re X x w 1 (-1) v true d2 := by
 have bel : Below w.heap.size w ((w.alloc (.cells #[.int .i64 1, .int .i64 (re : Int), .int .i64 X] 46)).alloc (.cells #[.int .i64 0, .int .i64 0] 57)) := ((Below.refl _ _).alloc (Nat.le_refl _) _).alloc (by simp) _
 have PB := hide (P.later bel)
 have GL := hide (row_lt P.row)
 have AT := hide (fun b (hb : x.at b) => own_at_lt P.own hb)
 have glt := own_rlt P.own P.er
 have GN := hide (And.intro (show gr ≠ w.heap.size by omega) (show gr ≠ w.heap.size + 1 by omega))
 have BX := hide (show ((w.alloc (.cells #[.int .i64 1, .int .i64 (re : Int), .int .i64 X] 46)).alloc (.cells #[.int .i64 0, .int .i64 0] 57)).heap[w.heap.size]? = some (.cells #[.int .i64 1, .int .i64 (re : Int), .int .i64 X] 46 (0, 0)) from row_lat (heap_alloc_last w _) (below_new _ _))
 have RB := hide (show ((w.alloc (.cells #[.int .i64 1, .int .i64 (re : Int), .int .i64 X] 46)).alloc (.cells #[.int .i64 0, .int .i64 0] 57)).heap[w.heap.size + 1]? = some (.cells #[.int .i64 0, .int .i64 0] 57 (0, 0)) by have := heap_alloc_last (w.alloc (.cells #[.int .i64 1, .int .i64 (re : Int), .int .i64 X] 46)) (.cells #[.int .i64 0, .int .i64 0] 57); simpa using this)
 have GW := hide (show w.grownBy ((w.alloc (.cells #[.int .i64 1, .int .i64 (re : Int), .int .i64 X] 46)).alloc (.cells #[.int .i64 0, .int .i64 0] 57)) (some gr) from (World.grownBy_alloc w _ _).trans (World.grownBy_alloc _ _ _))
 unfold PlP
 clear bel P glt
 go_enter Tryz.func31, Tryz.ntmps31
 go_wp2_with fail
 generalize hbo : w.heap.size = bo at BX RB GN ⊢
 have HBO := hide hbo
 generalize hwb : (w.alloc (Obj.cells #[.int .i64 1, .int .i64 (re : Int), .int .i64 X] 46)).alloc (Obj.cells #[.int .i64 0, .int .i64 0] 57) = wb at PB BX RB GW ⊢
 clear hbo hwb
 refine (A wb (uh PB)).mono ?_
 rintro e w2 ⟨rfl, p2, g2⟩
 have T_ := hide (row_past (uh BX) g2 (uh GN).1)
 clear BX
 have BX := hide (uh T_)
 clear T_
 have T_ := hide (row_past (uh RB) g2 (uh GN).2)
 clear RB
 have RB := hide (uh T_)
 clear T_
 have P2 := hide p2
 have G2 := hide ((uh GW).trans g2)
 have b0 : w2.cell? ⟨bo, 0, none⟩ = some (.int .i64 1) := (cell_of_row _ _ 0 _ 46 _ (uh BX)).trans rfl
 clear p2 g2 GW PB A GN
 go_wp2_with (refine wpList_store_row rfl 57 _ _ rfl (bo + 1) #[.int .i64 (-1), .int .i64 v] rfl rfl 57 #[.int .i64 0, .int .i64 0] (uh RB) (by kernel_rfl) rfl (by simp [Value.oneCell']) ?_)
 refine bodyPost_ret (results_row2 (P := Tryz.prog) rfl _ _ (bo + 1) 57 #[.int .i64 (-1), .int .i64 v] (0, 0) _ rfl (setRow_heap _ _ _ _ 57 _ (uh RB)) Tryz.underlying57 rfl (by kernel_rfl)) rfl ?_
 exact ⟨rfl, (uh P2).setRow (w := w) (uh GL) (uh AT) (by have := uh HBO; omega) _, grown_setRow (uh G2) (by have := uh HBO; omega) _⟩
theorem plN_2 (P : Pm w g B gr rc x d) (hs : x.small) (v : Int) (d2 : Md) (A : AtP g B gr rc re X x d 2 v false d2) : PlP g B gr rc re X x w 2 0 0 false d2 := by
 have bel : Below w.heap.size w ((w.alloc (.cells #[.int .i64 2, .int .i64 (re : Int), .int .i64 X] 46)).alloc (.cells #[.int .i64 0, .int .i64 0] 57)) := ((Below.refl _ _).alloc (Nat.le_refl _) _).alloc (by simp) _
 have PB := hide (P.later bel)
 have GL := hide (row_lt P.row)
 have AT := hide (fun b (hb : x.at b) => own_at_lt P.own hb)
 have glt := own_rlt P.own P.er
 have GN := hide (And.intro (show gr ≠ w.heap.size by omega) (show gr ≠ w.heap.size + 1 by omega))
 have BX := hide (show ((w.alloc (.cells #[.int .i64 2, .int .i64 (re : Int), .int .i64 X] 46)).alloc (.cells #[.int .i64 0, .int .i64 0] 57)).heap[w.heap.size]? = some (.cells #[.int .i64 2, .int .i64 (re : Int), .int .i64 X] 46 (0, 0)) from row_lat (heap_alloc_last w _) (below_new _ _))
 have RB := hide (show ((w.alloc (.cells #[.int .i64 2, .int .i64 (re : Int), .int .i64 X] 46)).alloc (.cells #[.int .i64 0, .int .i64 0] 57)).heap[w.heap.size + 1]? = some (.cells #[.int .i64 0, .int .i64 0] 57 (0, 0)) by have := heap_alloc_last (w.alloc (.cells #[.int .i64 2, .int .i64 (re : Int), .int .i64 X] 46)) (.cells #[.int .i64 0, .int .i64 0] 57); simpa using this)
 have GW := hide (show w.grownBy ((w.alloc (.cells #[.int .i64 2, .int .i64 (re : Int), .int .i64 X] 46)).alloc (.cells #[.int .i64 0, .int .i64 0] 57)) (some gr) from (World.grownBy_alloc w _ _).trans (World.grownBy_alloc _ _ _))
 unfold PlP
 clear bel P glt
 go_enter Tryz.func31, Tryz.ntmps31
 go_wp2_with fail
 generalize hbo : w.heap.size = bo at BX RB GN ⊢
 have HBO := hide hbo
 generalize hwb : (w.alloc (Obj.cells #[.int .i64 2, .int .i64 (re : Int), .int .i64 X] 46)).alloc (Obj.cells #[.int .i64 0, .int .i64 0] 57) = wb at PB BX RB GW ⊢
 clear hbo hwb
 refine (A wb (uh PB)).mono ?_
 rintro e w2 ⟨rfl, p2, g2⟩
 have T_ := hide (row_past (uh BX) g2 (uh GN).1)
 clear BX
 have BX := hide (uh T_)
 clear T_
 have T_ := hide (row_past (uh RB) g2 (uh GN).2)
 clear RB
 have RB := hide (uh T_)
 clear T_
 have P2 := hide p2
 have G2 := hide ((uh GW).trans g2)
 have b0 : w2.cell? ⟨bo, 0, none⟩ = some (.int .i64 2) := (cell_of_row _ _ 0 _ 46 _ (uh BX)).trans rfl
 clear p2 g2 GW PB A GN
 go_wp2_with (refine wpList_store_row rfl 57 _ _ rfl (bo + 1) #[.int .i64 0, .int .i64 0] rfl rfl 57 #[.int .i64 0, .int .i64 0] (uh RB) (by kernel_rfl) rfl (by simp [Value.oneCell']) ?_)
 refine bodyPost_ret (results_row2 (P := Tryz.prog) rfl _ _ (bo + 1) 57 #[.int .i64 0, .int .i64 0] (0, 0) _ rfl (setRow_heap _ _ _ _ 57 _ (uh RB)) Tryz.underlying57 rfl (by kernel_rfl)) rfl ?_
 exact ⟨rfl, (uh P2).setRow (w := w) (uh GL) (uh AT) (by have := uh HBO; omega) _, grown_setRow (uh G2) (by have := uh HBO; omega) _⟩
theorem plY_2 (P : Pm w g B gr rc x d) (hs : x.small) (v : Int) (d2 : Md) (A : AtP g B gr rc re X x d 2 v true d2) : PlP g B gr rc re X x w 2 (-1) v true d2 := by
 have bel : Below w.heap.size w ((w.alloc (.cells #[.int .i64 2, .int .i64 (re : Int), .int .i64 X] 46)).alloc (.cells #[.int .i64 0, .int .i64 0] 57)) := ((Below.refl _ _).alloc (Nat.le_refl _) _).alloc (by simp) _
 have PB := hide (P.later bel)
 have GL := hide (row_lt P.row)
 have AT := hide (fun b (hb : x.at b) => own_at_lt P.own hb)
 have glt := own_rlt P.own P.er
 have GN := hide (And.intro (show gr ≠ w.heap.size by omega) (show gr ≠ w.heap.size + 1 by omega))
 have BX := hide (show ((w.alloc (.cells #[.int .i64 2, .int .i64 (re : Int), .int .i64 X] 46)).alloc (.cells #[.int .i64 0, .int .i64 0] 57)).heap[w.heap.size]? = some (.cells #[.int .i64 2, .int .i64 (re : Int), .int .i64 X] 46 (0, 0)) from row_lat (heap_alloc_last w _) (below_new _ _))
 have RB := hide (show ((w.alloc (.cells #[.int .i64 2, .int .i64 (re : Int), .int .i64 X] 46)).alloc (.cells #[.int .i64 0, .int .i64 0] 57)).heap[w.heap.size + 1]? = some (.cells #[.int .i64 0, .int .i64 0] 57 (0, 0)) by have := heap_alloc_last (w.alloc (.cells #[.int .i64 2, .int .i64 (re : Int), .int .i64 X] 46)) (.cells #[.int .i64 0, .int .i64 0] 57); simpa using this)
 have GW := hide (show w.grownBy ((w.alloc (.cells #[.int .i64 2, .int .i64 (re : Int), .int .i64 X] 46)).alloc (.cells #[.int .i64 0, .int .i64 0] 57)) (some gr) from (World.grownBy_alloc w _ _).trans (World.grownBy_alloc _ _ _))
 unfold PlP
 clear bel P glt
 go_enter Tryz.func31, Tryz.ntmps31
 go_wp2_with fail
 generalize hbo : w.heap.size = bo at BX RB GN ⊢
 have HBO := hide hbo
 generalize hwb : (w.alloc (Obj.cells #[.int .i64 2, .int .i64 (re : Int), .int .i64 X] 46)).alloc (Obj.cells #[.int .i64 0, .int .i64 0] 57) = wb at PB BX RB GW ⊢
 clear hbo hwb
 refine (A wb (uh PB)).mono ?_
 rintro e w2 ⟨rfl, p2, g2⟩
 have T_ := hide (row_past (uh BX) g2 (uh GN).1)
 clear BX
 have BX := hide (uh T_)
 clear T_
 have T_ := hide (row_past (uh RB) g2 (uh GN).2)
 clear RB
 have RB := hide (uh T_)
 clear T_
 have P2 := hide p2
 have G2 := hide ((uh GW).trans g2)
 have b0 : w2.cell? ⟨bo, 0, none⟩ = some (.int .i64 2) := (cell_of_row _ _ 0 _ 46 _ (uh BX)).trans rfl
 clear p2 g2 GW PB A GN
 go_wp2_with (refine wpList_store_row rfl 57 _ _ rfl (bo + 1) #[.int .i64 (-1), .int .i64 v] rfl rfl 57 #[.int .i64 0, .int .i64 0] (uh RB) (by kernel_rfl) rfl (by simp [Value.oneCell']) ?_)
 refine bodyPost_ret (results_row2 (P := Tryz.prog) rfl _ _ (bo + 1) 57 #[.int .i64 (-1), .int .i64 v] (0, 0) _ rfl (setRow_heap _ _ _ _ 57 _ (uh RB)) Tryz.underlying57 rfl (by kernel_rfl)) rfl ?_
 exact ⟨rfl, (uh P2).setRow (w := w) (uh GL) (uh AT) (by have := uh HBO; omega) _, grown_setRow (uh G2) (by have := uh HBO; omega) _⟩
theorem plN_3 (P : Pm w g B gr rc x d) (hs : x.small) (v : Int) (d2 : Md) (A : AtP g B gr rc re X x d 3 v false d2) : PlP g B gr rc re X x w 3 0 0 false d2 := by
 have bel : Below w.heap.size w ((w.alloc (.cells #[.int .i64 3, .int .i64 (re : Int), .int .i64 X] 46)).alloc (.cells #[.int .i64 0, .int .i64 0] 57)) := ((Below.refl _ _).alloc (Nat.le_refl _) _).alloc (by simp) _
 have PB := hide (P.later bel)
 have GL := hide (row_lt P.row)
 have AT := hide (fun b (hb : x.at b) => own_at_lt P.own hb)
 have glt := own_rlt P.own P.er
 have GN := hide (And.intro (show gr ≠ w.heap.size by omega) (show gr ≠ w.heap.size + 1 by omega))
 have BX := hide (show ((w.alloc (.cells #[.int .i64 3, .int .i64 (re : Int), .int .i64 X] 46)).alloc (.cells #[.int .i64 0, .int .i64 0] 57)).heap[w.heap.size]? = some (.cells #[.int .i64 3, .int .i64 (re : Int), .int .i64 X] 46 (0, 0)) from row_lat (heap_alloc_last w _) (below_new _ _))
 have RB := hide (show ((w.alloc (.cells #[.int .i64 3, .int .i64 (re : Int), .int .i64 X] 46)).alloc (.cells #[.int .i64 0, .int .i64 0] 57)).heap[w.heap.size + 1]? = some (.cells #[.int .i64 0, .int .i64 0] 57 (0, 0)) by have := heap_alloc_last (w.alloc (.cells #[.int .i64 3, .int .i64 (re : Int), .int .i64 X] 46)) (.cells #[.int .i64 0, .int .i64 0] 57); simpa using this)
 have GW := hide (show w.grownBy ((w.alloc (.cells #[.int .i64 3, .int .i64 (re : Int), .int .i64 X] 46)).alloc (.cells #[.int .i64 0, .int .i64 0] 57)) (some gr) from (World.grownBy_alloc w _ _).trans (World.grownBy_alloc _ _ _))
 unfold PlP
 clear bel P glt
 go_enter Tryz.func31, Tryz.ntmps31
 go_wp2_with fail
 generalize hbo : w.heap.size = bo at BX RB GN ⊢
 have HBO := hide hbo
 generalize hwb : (w.alloc (Obj.cells #[.int .i64 3, .int .i64 (re : Int), .int .i64 X] 46)).alloc (Obj.cells #[.int .i64 0, .int .i64 0] 57) = wb at PB BX RB GW ⊢
 clear hbo hwb
 refine (A wb (uh PB)).mono ?_
 rintro e w2 ⟨rfl, p2, g2⟩
 have T_ := hide (row_past (uh BX) g2 (uh GN).1)
 clear BX
 have BX := hide (uh T_)
 clear T_
 have T_ := hide (row_past (uh RB) g2 (uh GN).2)
 clear RB
 have RB := hide (uh T_)
 clear T_
 have P2 := hide p2
 have G2 := hide ((uh GW).trans g2)
 have b0 : w2.cell? ⟨bo, 0, none⟩ = some (.int .i64 3) := (cell_of_row _ _ 0 _ 46 _ (uh BX)).trans rfl
 clear p2 g2 GW PB A GN
 go_wp2_with (refine wpList_store_row rfl 57 _ _ rfl (bo + 1) #[.int .i64 0, .int .i64 0] rfl rfl 57 #[.int .i64 0, .int .i64 0] (uh RB) (by kernel_rfl) rfl (by simp [Value.oneCell']) ?_)
 refine bodyPost_ret (results_row2 (P := Tryz.prog) rfl _ _ (bo + 1) 57 #[.int .i64 0, .int .i64 0] (0, 0) _ rfl (setRow_heap _ _ _ _ 57 _ (uh RB)) Tryz.underlying57 rfl (by kernel_rfl)) rfl ?_
 exact ⟨rfl, (uh P2).setRow (w := w) (uh GL) (uh AT) (by have := uh HBO; omega) _, grown_setRow (uh G2) (by have := uh HBO; omega) _⟩
theorem plM_3 (P : Pm w g B gr rc x d) (hs : x.small) (v : Int) (d2 : Md) (u : Int) (hq : d2.has v = false) (hu : d2.get v = u) (A : AtP g B gr rc re X x d 3 v true d2) : PlP g B gr rc re X x w 3 0 0 false d2 := by
 have bel : Below w.heap.size w ((w.alloc (.cells #[.int .i64 3, .int .i64 (re : Int), .int .i64 X] 46)).alloc (.cells #[.int .i64 0, .int .i64 0] 57)) := ((Below.refl _ _).alloc (Nat.le_refl _) _).alloc (by simp) _
 have PB := hide (P.later bel)
 have GL := hide (row_lt P.row)
 have AT := hide (fun b (hb : x.at b) => own_at_lt P.own hb)
 have glt := own_rlt P.own P.er
 have GN := hide (And.intro (show gr ≠ w.heap.size by omega) (show gr ≠ w.heap.size + 1 by omega))
 have BX := hide (show ((w.alloc (.cells #[.int .i64 3, .int .i64 (re : Int), .int .i64 X] 46)).alloc (.cells #[.int .i64 0, .int .i64 0] 57)).heap[w.heap.size]? = some (.cells #[.int .i64 3, .int .i64 (re : Int), .int .i64 X] 46 (0, 0)) from row_lat (heap_alloc_last w _) (below_new _ _))
 have RB := hide (show ((w.alloc (.cells #[.int .i64 3, .int .i64 (re : Int), .int .i64 X] 46)).alloc (.cells #[.int .i64 0, .int .i64 0] 57)).heap[w.heap.size + 1]? = some (.cells #[.int .i64 0, .int .i64 0] 57 (0, 0)) by have := heap_alloc_last (w.alloc (.cells #[.int .i64 3, .int .i64 (re : Int), .int .i64 X] 46)) (.cells #[.int .i64 0, .int .i64 0] 57); simpa using this)
 have GW := hide (show w.grownBy ((w.alloc (.cells #[.int .i64 3, .int .i64 (re : Int), .int .i64 X] 46)).alloc (.cells #[.int .i64 0, .int .i64 0] 57)) (some gr) from (World.grownBy_alloc w _ _).trans (World.grownBy_alloc _ _ _))
 unfold PlP
 clear bel P glt
 go_enter Tryz.func31, Tryz.ntmps31
 go_wp2_with fail
 generalize hbo : w.heap.size = bo at BX RB GN ⊢
 have HBO := hide hbo
 generalize hwb : (w.alloc (Obj.cells #[.int .i64 3, .int .i64 (re : Int), .int .i64 X] 46)).alloc (Obj.cells #[.int .i64 0, .int .i64 0] 57) = wb at PB BX RB GW ⊢
 clear hbo hwb
 refine (A wb (uh PB)).mono ?_
 rintro e w2 ⟨rfl, p2, g2⟩
 have T_ := hide (row_past (uh BX) g2 (uh GN).1)
 clear BX
 have BX := hide (uh T_)
 clear T_
 have T_ := hide (row_past (uh RB) g2 (uh GN).2)
 clear RB
 have RB := hide (uh T_)
 clear T_
 have P2 := hide p2
 have G2 := hide ((uh GW).trans g2)
 have b0 : w2.cell? ⟨bo, 0, none⟩ = some (.int .i64 3) := (cell_of_row _ _ 0 _ 46 _ (uh BX)).trans rfl
 clear p2 g2 GW PB A GN
 have R := hide (readS_any x d2 v w2 hs (uh P2).own.rd)
 rw [hq, hu] at R
 go_wp2_with (refine wpList_load_row rfl 26 _ rfl g rfl 26 x.cs (0, 0) _ (uh P2).row Tryz.underlying26 rfl (by kernel_rfl) ?_)
 refine (uh R).mono ?_
 rintro e w3 ⟨rfl, hb⟩
 have P3 := hide ((uh P2).later hb)
 have G3 := hide ((uh G2).trans ⟨hb.os, hb.tape, hb.output, hb.size, fun k hk _ => hb.block k hk⟩)
 have T_ := hide (row_lat (uh RB) hb)
 clear RB
 have RB := hide (uh T_)
 clear T_ hb R P2 G2 b0 hq hu
 go_wp2_with (refine wpList_store_row rfl 57 _ _ rfl (bo + 1) #[.int .i64 0, .int .i64 0] rfl rfl 57 #[.int .i64 0, .int .i64 0] (uh RB) (by kernel_rfl) rfl (by simp [Value.oneCell']) ?_)
 refine bodyPost_ret (results_row2 (P := Tryz.prog) rfl _ _ (bo + 1) 57 #[.int .i64 0, .int .i64 0] (0, 0) _ rfl (setRow_heap _ _ _ _ 57 _ (uh RB)) Tryz.underlying57 rfl (by kernel_rfl)) rfl ?_
 exact ⟨rfl, (uh P3).setRow (w := w) (uh GL) (uh AT) (by have := uh HBO; omega) _, grown_setRow (uh G3) (by have := uh HBO; omega) _⟩
theorem plY_3 (P : Pm w g B gr rc x d) (hs : x.small) (v : Int) (d2 : Md) (u : Int) (hq : d2.has v = true) (hu : d2.get v = u) (A : AtP g B gr rc re X x d 3 v true d2) : PlP g B gr rc re X x w 3 (-1) u true d2 := by
 have bel : Below w.heap.size w ((w.alloc (.cells #[.int .i64 3, .int .i64 (re : Int), .int .i64 X] 46)).alloc (.cells #[.int .i64 0, .int .i64 0] 57)) := ((Below.refl _ _).alloc (Nat.le_refl _) _).alloc (by simp) _
 have PB := hide (P.later bel)
 have GL := hide (row_lt P.row)
 have AT := hide (fun b (hb : x.at b) => own_at_lt P.own hb)
 have glt := own_rlt P.own P.er
 have GN := hide (And.intro (show gr ≠ w.heap.size by omega) (show gr ≠ w.heap.size + 1 by omega))
 have BX := hide (show ((w.alloc (.cells #[.int .i64 3, .int .i64 (re : Int), .int .i64 X] 46)).alloc (.cells #[.int .i64 0, .int .i64 0] 57)).heap[w.heap.size]? = some (.cells #[.int .i64 3, .int .i64 (re : Int), .int .i64 X] 46 (0, 0)) from row_lat (heap_alloc_last w _) (below_new _ _))
 have RB := hide (show ((w.alloc (.cells #[.int .i64 3, .int .i64 (re : Int), .int .i64 X] 46)).alloc (.cells #[.int .i64 0, .int .i64 0] 57)).heap[w.heap.size + 1]? = some (.cells #[.int .i64 0, .int .i64 0] 57 (0, 0)) by have := heap_alloc_last (w.alloc (.cells #[.int .i64 3, .int .i64 (re : Int), .int .i64 X] 46)) (.cells #[.int .i64 0, .int .i64 0] 57); simpa using this)
 have GW := hide (show w.grownBy ((w.alloc (.cells #[.int .i64 3, .int .i64 (re : Int), .int .i64 X] 46)).alloc (.cells #[.int .i64 0, .int .i64 0] 57)) (some gr) from (World.grownBy_alloc w _ _).trans (World.grownBy_alloc _ _ _))
 unfold PlP
 clear bel P glt
 go_enter Tryz.func31, Tryz.ntmps31
 go_wp2_with fail
 generalize hbo : w.heap.size = bo at BX RB GN ⊢
 have HBO := hide hbo
 generalize hwb : (w.alloc (Obj.cells #[.int .i64 3, .int .i64 (re : Int), .int .i64 X] 46)).alloc (Obj.cells #[.int .i64 0, .int .i64 0] 57) = wb at PB BX RB GW ⊢
 clear hbo hwb
 refine (A wb (uh PB)).mono ?_
 rintro e w2 ⟨rfl, p2, g2⟩
 have T_ := hide (row_past (uh BX) g2 (uh GN).1)
 clear BX
 have BX := hide (uh T_)
 clear T_
 have T_ := hide (row_past (uh RB) g2 (uh GN).2)
 clear RB
 have RB := hide (uh T_)
 clear T_
 have P2 := hide p2
 have G2 := hide ((uh GW).trans g2)
 have b0 : w2.cell? ⟨bo, 0, none⟩ = some (.int .i64 3) := (cell_of_row _ _ 0 _ 46 _ (uh BX)).trans rfl
 clear p2 g2 GW PB A GN
 have R := hide (readS_any x d2 v w2 hs (uh P2).own.rd)
 rw [hq, hu] at R
 go_wp2_with (refine wpList_load_row rfl 26 _ rfl g rfl 26 x.cs (0, 0) _ (uh P2).row Tryz.underlying26 rfl (by kernel_rfl) ?_)
 refine (uh R).mono ?_
 rintro e w3 ⟨rfl, hb⟩
 have P3 := hide ((uh P2).later hb)
 have G3 := hide ((uh G2).trans ⟨hb.os, hb.tape, hb.output, hb.size, fun k hk _ => hb.block k hk⟩)
 have T_ := hide (row_lat (uh RB) hb)
 clear RB
 have RB := hide (uh T_)
 clear T_ hb R P2 G2 b0 hq hu
 go_wp2_with (refine wpList_store_row rfl 57 _ _ rfl (bo + 1) #[.int .i64 (-1), .int .i64 u] rfl rfl 57 #[.int .i64 0, .int .i64 0] (uh RB) (by kernel_rfl) rfl (by simp [Value.oneCell']) ?_)
 refine bodyPost_ret (results_row2 (P := Tryz.prog) rfl _ _ (bo + 1) 57 #[.int .i64 (-1), .int .i64 u] (0, 0) _ rfl (setRow_heap _ _ _ _ 57 _ (uh RB)) Tryz.underlying57 rfl (by kernel_rfl)) rfl ?_
 exact ⟨rfl, (uh P3).setRow (w := w) (uh GL) (uh AT) (by have := uh HBO; omega) _, grown_setRow (uh G3) (by have := uh HBO; omega) _⟩
theorem plN_4 (P : Pm w g B gr rc x d) (hs : x.small) (v : Int) (d2 : Md) (A : AtP g B gr rc re X x d 4 v false d2) : PlP g B gr rc re X x w 4 0 0 false d2 := by
 have bel : Below w.heap.size w ((w.alloc (.cells #[.int .i64 4, .int .i64 (re : Int), .int .i64 X] 46)).alloc (.cells #[.int .i64 0, .int .i64 0] 57)) := ((Below.refl _ _).alloc (Nat.le_refl _) _).alloc (by simp) _
 have PB := hide (P.later bel)
 have GL := hide (row_lt P.row)
 have AT := hide (fun b (hb : x.at b) => own_at_lt P.own hb)
 have glt := own_rlt P.own P.er
 have GN := hide (And.intro (show gr ≠ w.heap.size by omega) (show gr ≠ w.heap.size + 1 by omega))
 have BX := hide (show ((w.alloc (.cells #[.int .i64 4, .int .i64 (re : Int), .int .i64 X] 46)).alloc (.cells #[.int .i64 0, .int .i64 0] 57)).heap[w.heap.size]? = some (.cells #[.int .i64 4, .int .i64 (re : Int), .int .i64 X] 46 (0, 0)) from row_lat (heap_alloc_last w _) (below_new _ _))
 have RB := hide (show ((w.alloc (.cells #[.int .i64 4, .int .i64 (re : Int), .int .i64 X] 46)).alloc (.cells #[.int .i64 0, .int .i64 0] 57)).heap[w.heap.size + 1]? = some (.cells #[.int .i64 0, .int .i64 0] 57 (0, 0)) by have := heap_alloc_last (w.alloc (.cells #[.int .i64 4, .int .i64 (re : Int), .int .i64 X] 46)) (.cells #[.int .i64 0, .int .i64 0] 57); simpa using this)
 have GW := hide (show w.grownBy ((w.alloc (.cells #[.int .i64 4, .int .i64 (re : Int), .int .i64 X] 46)).alloc (.cells #[.int .i64 0, .int .i64 0] 57)) (some gr) from (World.grownBy_alloc w _ _).trans (World.grownBy_alloc _ _ _))
 unfold PlP
 clear bel P glt
 go_enter Tryz.func31, Tryz.ntmps31
 go_wp2_with fail
 generalize hbo : w.heap.size = bo at BX RB GN ⊢
 have HBO := hide hbo
 generalize hwb : (w.alloc (Obj.cells #[.int .i64 4, .int .i64 (re : Int), .int .i64 X] 46)).alloc (Obj.cells #[.int .i64 0, .int .i64 0] 57) = wb at PB BX RB GW ⊢
 clear hbo hwb
 refine (A wb (uh PB)).mono ?_
 rintro e w2 ⟨rfl, p2, g2⟩
 have T_ := hide (row_past (uh BX) g2 (uh GN).1)
 clear BX
 have BX := hide (uh T_)
 clear T_
 have T_ := hide (row_past (uh RB) g2 (uh GN).2)
 clear RB
 have RB := hide (uh T_)
 clear T_
 have P2 := hide p2
 have G2 := hide ((uh GW).trans g2)
 have b0 : w2.cell? ⟨bo, 0, none⟩ = some (.int .i64 4) := (cell_of_row _ _ 0 _ 46 _ (uh BX)).trans rfl
 clear p2 g2 GW PB A GN
 go_wp2_with (refine wpList_store_row rfl 57 _ _ rfl (bo + 1) #[.int .i64 0, .int .i64 0] rfl rfl 57 #[.int .i64 0, .int .i64 0] (uh RB) (by kernel_rfl) rfl (by simp [Value.oneCell']) ?_)
 refine bodyPost_ret (results_row2 (P := Tryz.prog) rfl _ _ (bo + 1) 57 #[.int .i64 0, .int .i64 0] (0, 0) _ rfl (setRow_heap _ _ _ _ 57 _ (uh RB)) Tryz.underlying57 rfl (by kernel_rfl)) rfl ?_
 exact ⟨rfl, (uh P2).setRow (w := w) (uh GL) (uh AT) (by have := uh HBO; omega) _, grown_setRow (uh G2) (by have := uh HBO; omega) _⟩
theorem plY_4 (P : Pm w g B gr rc x d) (hs : x.small) (v : Int) (d2 : Md) (A : AtP g B gr rc re X x d 4 v true d2) : PlP g B gr rc re X x w 4 (-1) v true d2 := by
 have bel : Below w.heap.size w ((w.alloc (.cells #[.int .i64 4, .int .i64 (re : Int), .int .i64 X] 46)).alloc (.cells #[.int .i64 0, .int .i64 0] 57)) := ((Below.refl _ _).alloc (Nat.le_refl _) _).alloc (by simp) _
 have PB := hide (P.later bel)
 have GL := hide (row_lt P.row)
 have AT := hide (fun b (hb : x.at b) => own_at_lt P.own hb)
 have glt := own_rlt P.own P.er
 have GN := hide (And.intro (show gr ≠ w.heap.size by omega) (show gr ≠ w.heap.size + 1 by omega))
 have BX := hide (show ((w.alloc (.cells #[.int .i64 4, .int .i64 (re : Int), .int .i64 X] 46)).alloc (.cells #[.int .i64 0, .int .i64 0] 57)).heap[w.heap.size]? = some (.cells #[.int .i64 4, .int .i64 (re : Int), .int .i64 X] 46 (0, 0)) from row_lat (heap_alloc_last w _) (below_new _ _))
 have RB := hide (show ((w.alloc (.cells #[.int .i64 4, .int .i64 (re : Int), .int .i64 X] 46)).alloc (.cells #[.int .i64 0, .int .i64 0] 57)).heap[w.heap.size + 1]? = some (.cells #[.int .i64 0, .int .i64 0] 57 (0, 0)) by have := heap_alloc_last (w.alloc (.cells #[.int .i64 4, .int .i64 (re : Int), .int .i64 X] 46)) (.cells #[.int .i64 0, .int .i64 0] 57); simpa using this)
 have GW := hide (show w.grownBy ((w.alloc (.cells #[.int .i64 4, .int .i64 (re : Int), .int .i64 X] 46)).alloc (.cells #[.int .i64 0, .int .i64 0] 57)) (some gr) from (World.grownBy_alloc w _ _).trans (World.grownBy_alloc _ _ _))
 unfold PlP
 clear bel P glt
 go_enter Tryz.func31, Tryz.ntmps31
 go_wp2_with fail
 generalize hbo : w.heap.size = bo at BX RB GN ⊢
 have HBO := hide hbo
 generalize hwb : (w.alloc (Obj.cells #[.int .i64 4, .int .i64 (re : Int), .int .i64 X] 46)).alloc (Obj.cells #[.int .i64 0, .int .i64 0] 57) = wb at PB BX RB GW ⊢
 clear hbo hwb
 refine (A wb (uh PB)).mono ?_
 rintro e w2 ⟨rfl, p2, g2⟩
 have T_ := hide (row_past (uh BX) g2 (uh GN).1)
 clear BX
 have BX := hide (uh T_)
 clear T_
 have T_ := hide (row_past (uh RB) g2 (uh GN).2)
 clear RB
 have RB := hide (uh T_)
 clear T_
 have P2 := hide p2
 have G2 := hide ((uh GW).trans g2)
 have b0 : w2.cell? ⟨bo, 0, none⟩ = some (.int .i64 4) := (cell_of_row _ _ 0 _ 46 _ (uh BX)).trans rfl
 clear p2 g2 GW PB A GN
 go_wp2_with (refine wpList_store_row rfl 57 _ _ rfl (bo + 1) #[.int .i64 (-1), .int .i64 v] rfl rfl 57 #[.int .i64 0, .int .i64 0] (uh RB) (by kernel_rfl) rfl (by simp [Value.oneCell']) ?_)
 refine bodyPost_ret (results_row2 (P := Tryz.prog) rfl _ _ (bo + 1) 57 #[.int .i64 (-1), .int .i64 v] (0, 0) _ rfl (setRow_heap _ _ _ _ 57 _ (uh RB)) Tryz.underlying57 rfl (by kernel_rfl)) rfl ?_
 exact ⟨rfl, (uh P2).setRow (w := w) (uh GL) (uh AT) (by have := uh HBO; omega) _, grown_setRow (uh G2) (by have := uh HBO; omega) _⟩
theorem plN_5 (P : Pm w g B gr rc x d) (hs : x.small) (v : Int) (d2 : Md) (A : AtP g B gr rc re X x d 5 v false d2) : PlP g B gr rc re X x w 5 0 0 false d2 := by
 have bel : Below w.heap.size w ((w.alloc (.cells #[.int .i64 5, .int .i64 (re : Int), .int .i64 X] 46)).alloc (.cells #[.int .i64 0, .int .i64 0] 57)) := ((Below.refl _ _).alloc (Nat.le_refl _) _).alloc (by simp) _
 have PB := hide (P.later bel)
 have GL := hide (row_lt P.row)
 have AT := hide (fun b (hb : x.at b) => own_at_lt P.own hb)
 have glt := own_rlt P.own P.er
 have GN := hide (And.intro (show gr ≠ w.heap.size by omega) (show gr ≠ w.heap.size + 1 by omega))
 have BX := hide (show ((w.alloc (.cells #[.int .i64 5, .int .i64 (re : Int), .int .i64 X] 46)).alloc (.cells #[.int .i64 0, .int .i64 0] 57)).heap[w.heap.size]? = some (.cells #[.int .i64 5, .int .i64 (re : Int), .int .i64 X] 46 (0, 0)) from row_lat (heap_alloc_last w _) (below_new _ _))
 have RB := hide (show ((w.alloc (.cells #[.int .i64 5, .int .i64 (re : Int), .int .i64 X] 46)).alloc (.cells #[.int .i64 0, .int .i64 0] 57)).heap[w.heap.size + 1]? = some (.cells #[.int .i64 0, .int .i64 0] 57 (0, 0)) by have := heap_alloc_last (w.alloc (.cells #[.int .i64 5, .int .i64 (re : Int), .int .i64 X] 46)) (.cells #[.int .i64 0, .int .i64 0] 57); simpa using this)
 have GW := hide (show w.grownBy ((w.alloc (.cells #[.int .i64 5, .int .i64 (re : Int), .int .i64 X] 46)).alloc (.cells #[.int .i64 0, .int .i64 0] 57)) (some gr) from (World.grownBy_alloc w _ _).trans (World.grownBy_alloc _ _ _))
 unfold PlP
 clear bel P glt
 go_enter Tryz.func31, Tryz.ntmps31
 go_wp2_with fail
 generalize hbo : w.heap.size = bo at BX RB GN ⊢
 have HBO := hide hbo
 generalize hwb : (w.alloc (Obj.cells #[.int .i64 5, .int .i64 (re : Int), .int .i64 X] 46)).alloc (Obj.cells #[.int .i64 0, .int .i64 0] 57) = wb at PB BX RB GW ⊢
 clear hbo hwb
 refine (A wb (uh PB)).mono ?_
 rintro e w2 ⟨rfl, p2, g2⟩
 have T_ := hide (row_past (uh BX) g2 (uh GN).1)
 clear BX
 have BX := hide (uh T_)
 clear T_
 have T_ := hide (row_past (uh RB) g2 (uh GN).2)
 clear RB
 have RB := hide (uh T_)
 clear T_
 have P2 := hide p2
 have G2 := hide ((uh GW).trans g2)
 have b0 : w2.cell? ⟨bo, 0, none⟩ = some (.int .i64 5) := (cell_of_row _ _ 0 _ 46 _ (uh BX)).trans rfl
 clear p2 g2 GW PB A GN
 go_wp2_with (refine wpList_store_row rfl 57 _ _ rfl (bo + 1) #[.int .i64 0, .int .i64 0] rfl rfl 57 #[.int .i64 0, .int .i64 0] (uh RB) (by kernel_rfl) rfl (by simp [Value.oneCell']) ?_)
 refine bodyPost_ret (results_row2 (P := Tryz.prog) rfl _ _ (bo + 1) 57 #[.int .i64 0, .int .i64 0] (0, 0) _ rfl (setRow_heap _ _ _ _ 57 _ (uh RB)) Tryz.underlying57 rfl (by kernel_rfl)) rfl ?_
 exact ⟨rfl, (uh P2).setRow (w := w) (uh GL) (uh AT) (by have := uh HBO; omega) _, grown_setRow (uh G2) (by have := uh HBO; omega) _⟩
theorem plM_5 (P : Pm w g B gr rc x d) (hs : x.small) (v : Int) (d2 : Md) (u : Int) (hq : d2.has v = false) (hu : d2.get v = u) (A : AtP g B gr rc re X x d 5 v true d2) : PlP g B gr rc re X x w 5 0 0 false d2 := by
 have bel : Below w.heap.size w ((w.alloc (.cells #[.int .i64 5, .int .i64 (re : Int), .int .i64 X] 46)).alloc (.cells #[.int .i64 0, .int .i64 0] 57)) := ((Below.refl _ _).alloc (Nat.le_refl _) _).alloc (by simp) _
 have PB := hide (P.later bel)
 have GL := hide (row_lt P.row)
 have AT := hide (fun b (hb : x.at b) => own_at_lt P.own hb)
 have glt := own_rlt P.own P.er
 have GN := hide (And.intro (show gr ≠ w.heap.size by omega) (show gr ≠ w.heap.size + 1 by omega))
 have BX := hide (show ((w.alloc (.cells #[.int .i64 5, .int .i64 (re : Int), .int .i64 X] 46)).alloc (.cells #[.int .i64 0, .int .i64 0] 57)).heap[w.heap.size]? = some (.cells #[.int .i64 5, .int .i64 (re : Int), .int .i64 X] 46 (0, 0)) from row_lat (heap_alloc_last w _) (below_new _ _))
 have RB := hide (show ((w.alloc (.cells #[.int .i64 5, .int .i64 (re : Int), .int .i64 X] 46)).alloc (.cells #[.int .i64 0, .int .i64 0] 57)).heap[w.heap.size + 1]? = some (.cells #[.int .i64 0, .int .i64 0] 57 (0, 0)) by have := heap_alloc_last (w.alloc (.cells #[.int .i64 5, .int .i64 (re : Int), .int .i64 X] 46)) (.cells #[.int .i64 0, .int .i64 0] 57); simpa using this)
 have GW := hide (show w.grownBy ((w.alloc (.cells #[.int .i64 5, .int .i64 (re : Int), .int .i64 X] 46)).alloc (.cells #[.int .i64 0, .int .i64 0] 57)) (some gr) from (World.grownBy_alloc w _ _).trans (World.grownBy_alloc _ _ _))
 unfold PlP
 clear bel P glt
 go_enter Tryz.func31, Tryz.ntmps31
 go_wp2_with fail
 generalize hbo : w.heap.size = bo at BX RB GN ⊢
 have HBO := hide hbo
 generalize hwb : (w.alloc (Obj.cells #[.int .i64 5, .int .i64 (re : Int), .int .i64 X] 46)).alloc (Obj.cells #[.int .i64 0, .int .i64 0] 57) = wb at PB BX RB GW ⊢
 clear hbo hwb
 refine (A wb (uh PB)).mono ?_
 rintro e w2 ⟨rfl, p2, g2⟩
 have T_ := hide (row_past (uh BX) g2 (uh GN).1)
 clear BX
 have BX := hide (uh T_)
 clear T_
 have T_ := hide (row_past (uh RB) g2 (uh GN).2)
 clear RB
 have RB := hide (uh T_)
 clear T_
 have P2 := hide p2
 have G2 := hide ((uh GW).trans g2)
 have b0 : w2.cell? ⟨bo, 0, none⟩ = some (.int .i64 5) := (cell_of_row _ _ 0 _ 46 _ (uh BX)).trans rfl
 clear p2 g2 GW PB A GN
 have R := hide (readS_any x d2 v w2 hs (uh P2).own.rd)
 rw [hq, hu] at R
 go_wp2_with (refine wpList_load_row rfl 26 _ rfl g rfl 26 x.cs (0, 0) _ (uh P2).row Tryz.underlying26 rfl (by kernel_rfl) ?_)
 refine (uh R).mono ?_
 rintro e w3 ⟨rfl, hb⟩
 have P3 := hide ((uh P2).later hb)
 have G3 := hide ((uh G2).trans ⟨hb.os, hb.tape, hb.output, hb.size, fun k hk _ => hb.block k hk⟩)
 have T_ := hide (row_lat (uh RB) hb)
 clear RB
 have RB := hide (uh T_)
 clear T_ hb R P2 G2 b0 hq hu
 go_wp2_with (refine wpList_store_row rfl 57 _ _ rfl (bo + 1) #[.int .i64 0, .int .i64 0] rfl rfl 57 #[.int .i64 0, .int .i64 0] (uh RB) (by kernel_rfl) rfl (by simp [Value.oneCell']) ?_)
 refine bodyPost_ret (results_row2 (P := Tryz.prog) rfl _ _ (bo + 1) 57 #[.int .i64 0, .int .i64 0] (0, 0) _ rfl (setRow_heap _ _ _ _ 57 _ (uh RB)) Tryz.underlying57 rfl (by kernel_rfl)) rfl ?_
 exact ⟨rfl, (uh P3).setRow (w := w) (uh GL) (uh AT) (by have := uh HBO; omega) _, grown_setRow (uh G3) (by have := uh HBO; omega) _⟩
theorem plY_5 (P : Pm w g B gr rc x d) (hs : x.small) (v : Int) (d2 : Md) (u : Int) (hq : d2.has v = true) (hu : d2.get v = u) (A : AtP g B gr rc re X x d 5 v true d2) : PlP g B gr rc re X x w 5 (-1) u true d2 := by
 have bel : Below w.heap.size w ((w.alloc (.cells #[.int .i64 5, .int .i64 (re : Int), .int .i64 X] 46)).alloc (.cells #[.int .i64 0, .int .i64 0] 57)) := ((Below.refl _ _).alloc (Nat.le_refl _) _).alloc (by simp) _
 have PB := hide (P.later bel)
 have GL := hide (row_lt P.row)
 have AT := hide (fun b (hb : x.at b) => own_at_lt P.own hb)
 have glt := own_rlt P.own P.er
 have GN := hide (And.intro (show gr ≠ w.heap.size by omega) (show gr ≠ w.heap.size + 1 by omega))
 have BX := hide (show ((w.alloc (.cells #[.int .i64 5, .int .i64 (re : Int), .int .i64 X] 46)).alloc (.cells #[.int .i64 0, .int .i64 0] 57)).heap[w.heap.size]? = some (.cells #[.int .i64 5, .int .i64 (re : Int), .int .i64 X] 46 (0, 0)) from row_lat (heap_alloc_last w _) (below_new _ _))
 have RB := hide (show ((w.alloc (.cells #[.int .i64 5, .int .i64 (re : Int), .int .i64 X] 46)).alloc (.cells #[.int .i64 0, .int .i64 0] 57)).heap[w.heap.size + 1]? = some (.cells #[.int .i64 0, .int .i64 0] 57 (0, 0)) by have := heap_alloc_last (w.alloc (.cells #[.int .i64 5, .int .i64 (re : Int), .int .i64 X] 46)) (.cells #[.int .i64 0, .int .i64 0] 57); simpa using this)
 have GW := hide (show w.grownBy ((w.alloc (.cells #[.int .i64 5, .int .i64 (re : Int), .int .i64 X] 46)).alloc (.cells #[.int .i64 0, .int .i64 0] 57)) (some gr) from (World.grownBy_alloc w _ _).trans (World.grownBy_alloc _ _ _))
 unfold PlP
 clear bel P glt
 go_enter Tryz.func31, Tryz.ntmps31
 go_wp2_with fail
 generalize hbo : w.heap.size = bo at BX RB GN ⊢
 have HBO := hide hbo
 generalize hwb : (w.alloc (Obj.cells #[.int .i64 5, .int .i64 (re : Int), .int .i64 X] 46)).alloc (Obj.cells #[.int .i64 0, .int .i64 0] 57) = wb at PB BX RB GW ⊢
 clear hbo hwb
 refine (A wb (uh PB)).mono ?_
 rintro e w2 ⟨rfl, p2, g2⟩
 have T_ := hide (row_past (uh BX) g2 (uh GN).1)
 clear BX
 have BX := hide (uh T_)
 clear T_
 have T_ := hide (row_past (uh RB) g2 (uh GN).2)
 clear RB
 have RB := hide (uh T_)
 clear T_
 have P2 := hide p2
 have G2 := hide ((uh GW).trans g2)
 have b0 : w2.cell? ⟨bo, 0, none⟩ = some (.int .i64 5) := (cell_of_row _ _ 0 _ 46 _ (uh BX)).trans rfl
 clear p2 g2 GW PB A GN
 have R := hide (readS_any x d2 v w2 hs (uh P2).own.rd)
 rw [hq, hu] at R
 go_wp2_with (refine wpList_load_row rfl 26 _ rfl g rfl 26 x.cs (0, 0) _ (uh P2).row Tryz.underlying26 rfl (by kernel_rfl) ?_)
 refine (uh R).mono ?_
 rintro e w3 ⟨rfl, hb⟩
 have P3 := hide ((uh P2).later hb)
 have G3 := hide ((uh G2).trans ⟨hb.os, hb.tape, hb.output, hb.size, fun k hk _ => hb.block k hk⟩)
 have T_ := hide (row_lat (uh RB) hb)
 clear RB
 have RB := hide (uh T_)
 clear T_ hb R P2 G2 b0 hq hu
 go_wp2_with (refine wpList_store_row rfl 57 _ _ rfl (bo + 1) #[.int .i64 (-1), .int .i64 u] rfl rfl 57 #[.int .i64 0, .int .i64 0] (uh RB) (by kernel_rfl) rfl (by simp [Value.oneCell']) ?_)
 refine bodyPost_ret (results_row2 (P := Tryz.prog) rfl _ _ (bo + 1) 57 #[.int .i64 (-1), .int .i64 u] (0, 0) _ rfl (setRow_heap _ _ _ _ 57 _ (uh RB)) Tryz.underlying57 rfl (by kernel_rfl)) rfl ?_
 exact ⟨rfl, (uh P3).setRow (w := w) (uh GL) (uh AT) (by have := uh HBO; omega) _, grown_setRow (uh G3) (by have := uh HBO; omega) _⟩
theorem plN_6 (P : Pm w g B gr rc x d) (hs : x.small) (v : Int) (d2 : Md) (A : AtP g B gr rc re X x d 6 v false d2) : PlP g B gr rc re X x w 6 0 0 false d2 := by
 have bel : Below w.heap.size w ((w.alloc (.cells #[.int .i64 6, .int .i64 (re : Int), .int .i64 X] 46)).alloc (.cells #[.int .i64 0, .int .i64 0] 57)) := ((Below.refl _ _).alloc (Nat.le_refl _) _).alloc (by simp) _
 have PB := hide (P.later bel)
 have GL := hide (row_lt P.row)
 have AT := hide (fun b (hb : x.at b) => own_at_lt P.own hb)
 have glt := own_rlt P.own P.er
 have GN := hide (And.intro (show gr ≠ w.heap.size by omega) (show gr ≠ w.heap.size + 1 by omega))
 have BX := hide (show ((w.alloc (.cells #[.int .i64 6, .int .i64 (re : Int), .int .i64 X] 46)).alloc (.cells #[.int .i64 0, .int .i64 0] 57)).heap[w.heap.size]? = some (.cells #[.int .i64 6, .int .i64 (re : Int), .int .i64 X] 46 (0, 0)) from row_lat (heap_alloc_last w _) (below_new _ _))
 have RB := hide (show ((w.alloc (.cells #[.int .i64 6, .int .i64 (re : Int), .int .i64 X] 46)).alloc (.cells #[.int .i64 0, .int .i64 0] 57)).heap[w.heap.size + 1]? = some (.cells #[.int .i64 0, .int .i64 0] 57 (0, 0)) by have := heap_alloc_last (w.alloc (.cells #[.int .i64 6, .int .i64 (re : Int), .int .i64 X] 46)) (.cells #[.int .i64 0, .int .i64 0] 57); simpa using this)
 have GW := hide (show w.grownBy ((w.alloc (.cells #[.int .i64 6, .int .i64 (re : Int), .int .i64 X] 46)).alloc (.cells #[.int .i64 0, .int .i64 0] 57)) (some gr) from (World.grownBy_alloc w _ _).trans (World.grownBy_alloc _ _ _))
 unfold PlP
 clear bel P glt
 go_enter Tryz.func31, Tryz.ntmps31
 go_wp2_with fail
 generalize hbo : w.heap.size = bo at BX RB GN ⊢
 have HBO := hide hbo
 generalize hwb : (w.alloc (Obj.cells #[.int .i64 6, .int .i64 (re : Int), .int .i64 X] 46)).alloc (Obj.cells #[.int .i64 0, .int .i64 0] 57) = wb at PB BX RB GW ⊢
 clear hbo hwb
 refine (A wb (uh PB)).mono ?_
 rintro e w2 ⟨rfl, p2, g2⟩
 have T_ := hide (row_past (uh BX) g2 (uh GN).1)
 clear BX
 have BX := hide (uh T_)
 clear T_
 have T_ := hide (row_past (uh RB) g2 (uh GN).2)
 clear RB
 have RB := hide (uh T_)
 clear T_
 have P2 := hide p2
 have G2 := hide ((uh GW).trans g2)
 have b0 : w2.cell? ⟨bo, 0, none⟩ = some (.int .i64 6) := (cell_of_row _ _ 0 _ 46 _ (uh BX)).trans rfl
 clear p2 g2 GW PB A GN
 go_wp2_with (refine wpList_store_row rfl 57 _ _ rfl (bo + 1) #[.int .i64 0, .int .i64 0] rfl rfl 57 #[.int .i64 0, .int .i64 0] (uh RB) (by kernel_rfl) rfl (by simp [Value.oneCell']) ?_)
 refine bodyPost_ret (results_row2 (P := Tryz.prog) rfl _ _ (bo + 1) 57 #[.int .i64 0, .int .i64 0] (0, 0) _ rfl (setRow_heap _ _ _ _ 57 _ (uh RB)) Tryz.underlying57 rfl (by kernel_rfl)) rfl ?_
 exact ⟨rfl, (uh P2).setRow (w := w) (uh GL) (uh AT) (by have := uh HBO; omega) _, grown_setRow (uh G2) (by have := uh HBO; omega) _⟩
theorem plY_6 (P : Pm w g B gr rc x d) (hs : x.small) (v : Int) (d2 : Md) (A : AtP g B gr rc re X x d 6 v true d2) : PlP g B gr rc re X x w 6 (-1) v true d2 := by
 have bel : Below w.heap.size w ((w.alloc (.cells #[.int .i64 6, .int .i64 (re : Int), .int .i64 X] 46)).alloc (.cells #[.int .i64 0, .int .i64 0] 57)) := ((Below.refl _ _).alloc (Nat.le_refl _) _).alloc (by simp) _
 have PB := hide (P.later bel)
 have GL := hide (row_lt P.row)
 have AT := hide (fun b (hb : x.at b) => own_at_lt P.own hb)
 have glt := own_rlt P.own P.er
 have GN := hide (And.intro (show gr ≠ w.heap.size by omega) (show gr ≠ w.heap.size + 1 by omega))
 have BX := hide (show ((w.alloc (.cells #[.int .i64 6, .int .i64 (re : Int), .int .i64 X] 46)).alloc (.cells #[.int .i64 0, .int .i64 0] 57)).heap[w.heap.size]? = some (.cells #[.int .i64 6, .int .i64 (re : Int), .int .i64 X] 46 (0, 0)) from row_lat (heap_alloc_last w _) (below_new _ _))
 have RB := hide (show ((w.alloc (.cells #[.int .i64 6, .int .i64 (re : Int), .int .i64 X] 46)).alloc (.cells #[.int .i64 0, .int .i64 0] 57)).heap[w.heap.size + 1]? = some (.cells #[.int .i64 0, .int .i64 0] 57 (0, 0)) by have := heap_alloc_last (w.alloc (.cells #[.int .i64 6, .int .i64 (re : Int), .int .i64 X] 46)) (.cells #[.int .i64 0, .int .i64 0] 57); simpa using this)
 have GW := hide (show w.grownBy ((w.alloc (.cells #[.int .i64 6, .int .i64 (re : Int), .int .i64 X] 46)).alloc (.cells #[.int .i64 0, .int .i64 0] 57)) (some gr) from (World.grownBy_alloc w _ _).trans (World.grownBy_alloc _ _ _))
 unfold PlP
 clear bel P glt
 go_enter Tryz.func31, Tryz.ntmps31
 go_wp2_with fail
 generalize hbo : w.heap.size = bo at BX RB GN ⊢
 have HBO := hide hbo
 generalize hwb : (w.alloc (Obj.cells #[.int .i64 6, .int .i64 (re : Int), .int .i64 X] 46)).alloc (Obj.cells #[.int .i64 0, .int .i64 0] 57) = wb at PB BX RB GW ⊢
 clear hbo hwb
 refine (A wb (uh PB)).mono ?_
 rintro e w2 ⟨rfl, p2, g2⟩
 have T_ := hide (row_past (uh BX) g2 (uh GN).1)
 clear BX
 have BX := hide (uh T_)
 clear T_
 have T_ := hide (row_past (uh RB) g2 (uh GN).2)
 clear RB
 have RB := hide (uh T_)
 clear T_
 have P2 := hide p2
 have G2 := hide ((uh GW).trans g2)
 have b0 : w2.cell? ⟨bo, 0, none⟩ = some (.int .i64 6) := (cell_of_row _ _ 0 _ 46 _ (uh BX)).trans rfl
 clear p2 g2 GW PB A GN
 go_wp2_with (refine wpList_store_row rfl 57 _ _ rfl (bo + 1) #[.int .i64 (-1), .int .i64 v] rfl rfl 57 #[.int .i64 0, .int .i64 0] (uh RB) (by kernel_rfl) rfl (by simp [Value.oneCell']) ?_)
 refine bodyPost_ret (results_row2 (P := Tryz.prog) rfl _ _ (bo + 1) 57 #[.int .i64 (-1), .int .i64 v] (0, 0) _ rfl (setRow_heap _ _ _ _ 57 _ (uh RB)) Tryz.underlying57 rfl (by kernel_rfl)) rfl ?_
 exact ⟨rfl, (uh P2).setRow (w := w) (uh GL) (uh AT) (by have := uh HBO; omega) _, grown_setRow (uh G2) (by have := uh HBO; omega) _⟩
theorem plN_7 (P : Pm w g B gr rc x d) (hs : x.small) (v : Int) (d2 : Md) (A : AtP g B gr rc re X x d 7 v false d2) : PlP g B gr rc re X x w 7 0 0 false d2 := by
 have bel : Below w.heap.size w ((w.alloc (.cells #[.int .i64 7, .int .i64 (re : Int), .int .i64 X] 46)).alloc (.cells #[.int .i64 0, .int .i64 0] 57)) := ((Below.refl _ _).alloc (Nat.le_refl _) _).alloc (by simp) _
 have PB := hide (P.later bel)
 have GL := hide (row_lt P.row)
 have AT := hide (fun b (hb : x.at b) => own_at_lt P.own hb)
 have glt := own_rlt P.own P.er
 have GN := hide (And.intro (show gr ≠ w.heap.size by omega) (show gr ≠ w.heap.size + 1 by omega))
 have BX := hide (show ((w.alloc (.cells #[.int .i64 7, .int .i64 (re : Int), .int .i64 X] 46)).alloc (.cells #[.int .i64 0, .int .i64 0] 57)).heap[w.heap.size]? = some (.cells #[.int .i64 7, .int .i64 (re : Int), .int .i64 X] 46 (0, 0)) from row_lat (heap_alloc_last w _) (below_new _ _))
 have RB := hide (show ((w.alloc (.cells #[.int .i64 7, .int .i64 (re : Int), .int .i64 X] 46)).alloc (.cells #[.int .i64 0, .int .i64 0] 57)).heap[w.heap.size + 1]? = some (.cells #[.int .i64 0, .int .i64 0] 57 (0, 0)) by have := heap_alloc_last (w.alloc (.cells #[.int .i64 7, .int .i64 (re : Int), .int .i64 X] 46)) (.cells #[.int .i64 0, .int .i64 0] 57); simpa using this)
 have GW := hide (show w.grownBy ((w.alloc (.cells #[.int .i64 7, .int .i64 (re : Int), .int .i64 X] 46)).alloc (.cells #[.int .i64 0, .int .i64 0] 57)) (some gr) from (World.grownBy_alloc w _ _).trans (World.grownBy_alloc _ _ _))
 unfold PlP
 clear bel P glt
 go_enter Tryz.func31, Tryz.ntmps31
 go_wp2_with fail
 generalize hbo : w.heap.size = bo at BX RB GN ⊢
 have HBO := hide hbo
 generalize hwb : (w.alloc (Obj.cells #[.int .i64 7, .int .i64 (re : Int), .int .i64 X] 46)).alloc (Obj.cells #[.int .i64 0, .int .i64 0] 57) = wb at PB BX RB GW ⊢
 clear hbo hwb
 refine (A wb (uh PB)).mono ?_
 rintro e w2 ⟨rfl, p2, g2⟩
 have T_ := hide (row_past (uh BX) g2 (uh GN).1)
 clear BX
 have BX := hide (uh T_)
 clear T_
 have T_ := hide (row_past (uh RB) g2 (uh GN).2)
 clear RB
 have RB := hide (uh T_)
 clear T_
 have P2 := hide p2
 have G2 := hide ((uh GW).trans g2)
 have b0 : w2.cell? ⟨bo, 0, none⟩ = some (.int .i64 7) := (cell_of_row _ _ 0 _ 46 _ (uh BX)).trans rfl
 clear p2 g2 GW PB A GN
 go_wp2_with (refine wpList_store_row rfl 57 _ _ rfl (bo + 1) #[.int .i64 0, .int .i64 0] rfl rfl 57 #[.int .i64 0, .int .i64 0] (uh RB) (by kernel_rfl) rfl (by simp [Value.oneCell']) ?_)
 refine bodyPost_ret (results_row2 (P := Tryz.prog) rfl _ _ (bo + 1) 57 #[.int .i64 0, .int .i64 0] (0, 0) _ rfl (setRow_heap _ _ _ _ 57 _ (uh RB)) Tryz.underlying57 rfl (by kernel_rfl)) rfl ?_
 exact ⟨rfl, (uh P2).setRow (w := w) (uh GL) (uh AT) (by have := uh HBO; omega) _, grown_setRow (uh G2) (by have := uh HBO; omega) _⟩
theorem plM_7 (P : Pm w g B gr rc x d) (hs : x.small) (v : Int) (d2 : Md) (u : Int) (hq : d2.has v = false) (hu : d2.get v = u) (A : AtP g B gr rc re X x d 7 v true d2) : PlP g B gr rc re X x w 7 0 0 false d2 := by
 have bel : Below w.heap.size w ((w.alloc (.cells #[.int .i64 7, .int .i64 (re : Int), .int .i64 X] 46)).alloc (.cells #[.int .i64 0, .int .i64 0] 57)) := ((Below.refl _ _).alloc (Nat.le_refl _) _).alloc (by simp) _
 have PB := hide (P.later bel)
 have GL := hide (row_lt P.row)
 have AT := hide (fun b (hb : x.at b) => own_at_lt P.own hb)
 have glt := own_rlt P.own P.er
 have GN := hide (And.intro (show gr ≠ w.heap.size by omega) (show gr ≠ w.heap.size + 1 by omega))
 have BX := hide (show ((w.alloc (.cells #[.int .i64 7, .int .i64 (re : Int), .int .i64 X] 46)).alloc (.cells #[.int .i64 0, .int .i64 0] 57)).heap[w.heap.size]? = some (.cells #[.int .i64 7, .int .i64 (re : Int), .int .i64 X] 46 (0, 0)) from row_lat (heap_alloc_last w _) (below_new _ _))
 have RB := hide (show ((w.alloc (.cells #[.int .i64 7, .int .i64 (re : Int), .int .i64 X] 46)).alloc (.cells #[.int .i64 0, .int .i64 0] 57)).heap[w.heap.size + 1]? = some (.cells #[.int .i64 0, .int .i64 0] 57 (0, 0)) by have := heap_alloc_last (w.alloc (.cells #[.int .i64 7, .int .i64 (re : Int), .int .i64 X] 46)) (.cells #[.int .i64 0, .int .i64 0] 57); simpa using this)
 have GW := hide (show w.grownBy ((w.alloc (.cells #[.int .i64 7, .int .i64 (re : Int), .int .i64 X] 46)).alloc (.cells #[.int .i64 0, .int .i64 0] 57)) (some gr) from (World.grownBy_alloc w _ _).trans (World.grownBy_alloc _ _ _))
 unfold PlP
 clear bel P glt
 go_enter Tryz.func31, Tryz.ntmps31
 go_wp2_with fail
 generalize hbo : w.heap.size = bo at BX RB GN ⊢
 have HBO := hide hbo
 generalize hwb : (w.alloc (Obj.cells #[.int .i64 7, .int .i64 (re : Int), .int .i64 X] 46)).alloc (Obj.cells #[.int .i64 0, .int .i64 0] 57) = wb at PB BX RB GW ⊢
 clear hbo hwb
 refine (A wb (uh PB)).mono ?_
 rintro e w2 ⟨rfl, p2, g2⟩
 have T_ := hide (row_past (uh BX) g2 (uh GN).1)
 clear BX
 have BX := hide (uh T_)
 clear T_
 have T_ := hide (row_past (uh RB) g2 (uh GN).2)
 clear RB
 have RB := hide (uh T_)
 clear T_
 have P2 := hide p2
 have G2 := hide ((uh GW).trans g2)
 have b0 : w2.cell? ⟨bo, 0, none⟩ = some (.int .i64 7) := (cell_of_row _ _ 0 _ 46 _ (uh BX)).trans rfl
 clear p2 g2 GW PB A GN
 have R := hide (readS_any x d2 v w2 hs (uh P2).own.rd)
 rw [hq, hu] at R
 go_wp2_with (refine wpList_load_row rfl 26 _ rfl g rfl 26 x.cs (0, 0) _ (uh P2).row Tryz.underlying26 rfl (by kernel_rfl) ?_)
 refine (uh R).mono ?_
 rintro e w3 ⟨rfl, hb⟩
 have P3 := hide ((uh P2).later hb)
 have G3 := hide ((uh G2).trans ⟨hb.os, hb.tape, hb.output, hb.size, fun k hk _ => hb.block k hk⟩)
 have T_ := hide (row_lat (uh RB) hb)
 clear RB
 have RB := hide (uh T_)
 clear T_ hb R P2 G2 b0 hq hu
 go_wp2_with (refine wpList_store_row rfl 57 _ _ rfl (bo + 1) #[.int .i64 0, .int .i64 0] rfl rfl 57 #[.int .i64 0, .int .i64 0] (uh RB) (by kernel_rfl) rfl (by simp [Value.oneCell']) ?_)
 refine bodyPost_ret (results_row2 (P := Tryz.prog) rfl _ _ (bo + 1) 57 #[.int .i64 0, .int .i64 0] (0, 0) _ rfl (setRow_heap _ _ _ _ 57 _ (uh RB)) Tryz.underlying57 rfl (by kernel_rfl)) rfl ?_
 exact ⟨rfl, (uh P3).setRow (w := w) (uh GL) (uh AT) (by have := uh HBO; omega) _, grown_setRow (uh G3) (by have := uh HBO; omega) _⟩
theorem plY_7 (P : Pm w g B gr rc x d) (hs : x.small) (v : Int) (d2 : Md) (u : Int) (hq : d2.has v = true) (hu : d2.get v = u) (A : AtP g B gr rc re X x d 7 v true d2) : PlP g B gr rc re X x w 7 (-1) u true d2 := by
 have bel : Below w.heap.size w ((w.alloc (.cells #[.int .i64 7, .int .i64 (re : Int), .int .i64 X] 46)).alloc (.cells #[.int .i64 0, .int .i64 0] 57)) := ((Below.refl _ _).alloc (Nat.le_refl _) _).alloc (by simp) _
 have PB := hide (P.later bel)
 have GL := hide (row_lt P.row)
 have AT := hide (fun b (hb : x.at b) => own_at_lt P.own hb)
 have glt := own_rlt P.own P.er
 have GN := hide (And.intro (show gr ≠ w.heap.size by omega) (show gr ≠ w.heap.size + 1 by omega))
 have BX := hide (show ((w.alloc (.cells #[.int .i64 7, .int .i64 (re : Int), .int .i64 X] 46)).alloc (.cells #[.int .i64 0, .int .i64 0] 57)).heap[w.heap.size]? = some (.cells #[.int .i64 7, .int .i64 (re : Int), .int .i64 X] 46 (0, 0)) from row_lat (heap_alloc_last w _) (below_new _ _))
 have RB := hide (show ((w.alloc (.cells #[.int .i64 7, .int .i64 (re : Int), .int .i64 X] 46)).alloc (.cells #[.int .i64 0, .int .i64 0] 57)).heap[w.heap.size + 1]? = some (.cells #[.int .i64 0, .int .i64 0] 57 (0, 0)) by have := heap_alloc_last (w.alloc (.cells #[.int .i64 7, .int .i64 (re : Int), .int .i64 X] 46)) (.cells #[.int .i64 0, .int .i64 0] 57); simpa using this)
 have GW := hide (show w.grownBy ((w.alloc (.cells #[.int .i64 7, .int .i64 (re : Int), .int .i64 X] 46)).alloc (.cells #[.int .i64 0, .int .i64 0] 57)) (some gr) from (World.grownBy_alloc w _ _).trans (World.grownBy_alloc _ _ _))
 unfold PlP
 clear bel P glt
 go_enter Tryz.func31, Tryz.ntmps31
 go_wp2_with fail
 generalize hbo : w.heap.size = bo at BX RB GN ⊢
 have HBO := hide hbo
 generalize hwb : (w.alloc (Obj.cells #[.int .i64 7, .int .i64 (re : Int), .int .i64 X] 46)).alloc (Obj.cells #[.int .i64 0, .int .i64 0] 57) = wb at PB BX RB GW ⊢
 clear hbo hwb
 refine (A wb (uh PB)).mono ?_
 rintro e w2 ⟨rfl, p2, g2⟩
 have T_ := hide (row_past (uh BX) g2 (uh GN).1)
 clear BX
 have BX := hide (uh T_)
 clear T_
 have T_ := hide (row_past (uh RB) g2 (uh GN).2)
 clear RB
 have RB := hide (uh T_)
 clear T_
 have P2 := hide p2
 have G2 := hide ((uh GW).trans g2)
 have b0 : w2.cell? ⟨bo, 0, none⟩ = some (.int .i64 7) := (cell_of_row _ _ 0 _ 46 _ (uh BX)).trans rfl
 clear p2 g2 GW PB A GN
 have R := hide (readS_any x d2 v w2 hs (uh P2).own.rd)
 rw [hq, hu] at R
 go_wp2_with (refine wpList_load_row rfl 26 _ rfl g rfl 26 x.cs (0, 0) _ (uh P2).row Tryz.underlying26 rfl (by kernel_rfl) ?_)
 refine (uh R).mono ?_
 rintro e w3 ⟨rfl, hb⟩
 have P3 := hide ((uh P2).later hb)
 have G3 := hide ((uh G2).trans ⟨hb.os, hb.tape, hb.output, hb.size, fun k hk _ => hb.block k hk⟩)
 have T_ := hide (row_lat (uh RB) hb)
 clear RB
 have RB := hide (uh T_)
 clear T_ hb R P2 G2 b0 hq hu
 go_wp2_with (refine wpList_store_row rfl 57 _ _ rfl (bo + 1) #[.int .i64 (-1), .int .i64 u] rfl rfl 57 #[.int .i64 0, .int .i64 0] (uh RB) (by kernel_rfl) rfl (by simp [Value.oneCell']) ?_)
 refine bodyPost_ret (results_row2 (P := Tryz.prog) rfl _ _ (bo + 1) 57 #[.int .i64 (-1), .int .i64 u] (0, 0) _ rfl (setRow_heap _ _ _ _ 57 _ (uh RB)) Tryz.underlying57 rfl (by kernel_rfl)) rfl ?_
 exact ⟨rfl, (uh P3).setRow (w := w) (uh GL) (uh AT) (by have := uh HBO; omega) _, grown_setRow (uh G3) (by have := uh HBO; omega) _⟩
theorem plZ_0 (P : Pm w g B gr rc x d) : PlP g B gr rc re X x w 0 (re : Int) (-1) true d := by
 have PB := hide (P.later (((Below.refl _ _).alloc (Nat.le_refl _) (.cells #[.int .i64 0, .int .i64 (re : Int), .int .i64 X] 46)).alloc (by simp) (.cells #[.int .i64 (re : Int), .int .i64 (-1)] 57)))
 have GW := hide (show w.grownBy ((w.alloc (.cells #[.int .i64 0, .int .i64 (re : Int), .int .i64 X] 46)).alloc (.cells #[.int .i64 (re : Int), .int .i64 (-1)] 57)) (some gr) from (World.grownBy_alloc w _ _).trans (World.grownBy_alloc _ _ _))
 have RB := hide (show ((w.alloc (.cells #[.int .i64 0, .int .i64 (re : Int), .int .i64 X] 46)).alloc (.cells #[.int .i64 (re : Int), .int .i64 (-1)] 57)).heap[w.heap.size + 1]? = some (.cells #[.int .i64 (re : Int), .int .i64 (-1)] 57 (0, 0)) by have := heap_alloc_last (w.alloc (.cells #[.int .i64 0, .int .i64 (re : Int), .int .i64 X] 46)) (.cells #[.int .i64 (re : Int), .int .i64 (-1)] 57); simpa using this)
 unfold PlP
 clear P
 go_enter Tryz.func31, Tryz.ntmps31
 go_wp2_with fail
 refine bodyPost_ret (results_row2 (P := Tryz.prog) rfl _ _ (w.heap.size + 1) 57 #[.int .i64 (re : Int), .int .i64 (-1)] (0, 0) _ rfl (uh RB) Tryz.underlying57 rfl (by kernel_rfl)) rfl ?_
 exact ⟨rfl, uh PB, uh GW⟩
end
def PlIs (g B gr rc mo re : Nat) (X : Int) (x : Mv) (d : Md) (w : World) : Prop := Calls Tryz.prog 31 #[.pointer (some ⟨g, 0, none⟩), .agg #[.int .i64 (mo : Int), .int .i64 (re : Int), .int .i64 X]] w fun e w' => e = .returned (.tuple #[.agg #[.int .i64 (d.plR mo re), .int .i64 (d.plA mo re)], .bool (d.plO mo re)]) ∧ Pm w' g B gr rc x (d.plD mo re) ∧ w.grownBy w' (some gr)
theorem plS_any (g B gr rc mo re : Nat) (X : Int) (x : Mv) (d : Md) (w : World) (P : Pm w g B gr rc x d) (h8 : d.R8) (hr : re < 8) (hs : x.small) (hx : 0 ≤ d.get (nAt d.r 7) ∧ d.get (nAt d.r 7) ≤ 65535) (h7 : mo ≤ 7) : PlIs g B gr rc mo re X x d w := by
 have hA : 1 ≤ mo → AtP g B gr rc re X x d mo (d.adV mo re) (d.adO mo re) (d.adD mo re) := fun h1 wb Pb => atS_any g B gr rc mo re X x d wb Pb h8 hr hs hx h1 h7
 rcases (show mo = 0 ∨ mo = 1 ∨ mo = 2 ∨ mo = 3 ∨ mo = 4 ∨ mo = 5 ∨ mo = 6 ∨ mo = 7 by omega) with rfl | rfl | rfl | rfl | rfl | rfl | rfl | rfl
 · exact plZ_0 g B gr rc re X x d w P
 ·
  have A := hA (by omega)
  unfold PlIs Md.plR Md.plA Md.plD
  rw [show d.plO 1 re = d.adO 1 re by unfold Md.plO; simp [oddM]]
  generalize d.adO 1 re = ok at A ⊢
  cases ok
  · exact plN_1 g B gr rc re X x d w P hs _ _ A
  · exact plY_1 g B gr rc re X x d w P hs _ _ A
 ·
  have A := hA (by omega)
  unfold PlIs Md.plR Md.plA Md.plD
  rw [show d.plO 2 re = d.adO 2 re by unfold Md.plO; simp [oddM]]
  generalize d.adO 2 re = ok at A ⊢
  cases ok
  · exact plN_2 g B gr rc re X x d w P hs _ _ A
  · exact plY_2 g B gr rc re X x d w P hs _ _ A
 ·
  have A := hA (by omega)
  unfold PlIs Md.plR Md.plA Md.plD
  rw [show d.plO 3 re = (d.adO 3 re && (d.adD 3 re).has (d.adV 3 re)) by unfold Md.plO; simp [oddM]]
  generalize d.adO 3 re = ok at A ⊢
  cases ok
  · exact plN_3 g B gr rc re X x d w P hs _ _ A
  ·
   cases hq : (d.adD 3 re).has (d.adV 3 re)
   · exact plM_3 g B gr rc re X x d w P hs _ _ _ hq rfl A
   · exact plY_3 g B gr rc re X x d w P hs _ _ _ hq rfl A
 ·
  have A := hA (by omega)
  unfold PlIs Md.plR Md.plA Md.plD
  rw [show d.plO 4 re = d.adO 4 re by unfold Md.plO; simp [oddM]]
  generalize d.adO 4 re = ok at A ⊢
  cases ok
  · exact plN_4 g B gr rc re X x d w P hs _ _ A
  · exact plY_4 g B gr rc re X x d w P hs _ _ A
 ·
  have A := hA (by omega)
  unfold PlIs Md.plR Md.plA Md.plD
  rw [show d.plO 5 re = (d.adO 5 re && (d.adD 5 re).has (d.adV 5 re)) by unfold Md.plO; simp [oddM]]
  generalize d.adO 5 re = ok at A ⊢
  cases ok
  · exact plN_5 g B gr rc re X x d w P hs _ _ A
  ·
   cases hq : (d.adD 5 re).has (d.adV 5 re)
   · exact plM_5 g B gr rc re X x d w P hs _ _ _ hq rfl A
   · exact plY_5 g B gr rc re X x d w P hs _ _ _ hq rfl A
 ·
  have A := hA (by omega)
  unfold PlIs Md.plR Md.plA Md.plD
  rw [show d.plO 6 re = d.adO 6 re by unfold Md.plO; simp [oddM]]
  generalize d.adO 6 re = ok at A ⊢
  cases ok
  · exact plN_6 g B gr rc re X x d w P hs _ _ A
  · exact plY_6 g B gr rc re X x d w P hs _ _ A
 ·
  have A := hA (by omega)
  unfold PlIs Md.plR Md.plA Md.plD
  rw [show d.plO 7 re = (d.adO 7 re && (d.adD 7 re).has (d.adV 7 re)) by unfold Md.plO; simp [oddM]]
  generalize d.adO 7 re = ok at A ⊢
  cases ok
  · exact plN_7 g B gr rc re X x d w P hs _ _ A
  ·
   cases hq : (d.adD 7 re).has (d.adV 7 re)
   · exact plM_7 g B gr rc re X x d w P hs _ _ _ hq rfl A
   · exact plY_7 g B gr rc re X x d w P hs _ _ _ hq rfl A
end
end Go.Proofs.YtboedaofbchdkaaGreatDoor
