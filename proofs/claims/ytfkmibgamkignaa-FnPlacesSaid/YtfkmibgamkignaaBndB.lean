/- Contracts over this seat's translation, laid together; conditions stand as hypotheses of each. -/
import Derived.Test.YtfkmibgamkignaaBndA
import Derived.Deep.WholeRow
import Derived.Deep.RegionWith
import Derived.Deep.RegionHeld
import Derived.Great.Walk
import Derived.Laws.CopyOwn

namespace Go.Proofs.Ytfkmibgamkignaa
open Go.ChangeShapes Go.WideShapes Go.ChangeAt Go.RowKit
set_option linter.unusedVariables false
set_option maxRecDepth 8000
set_option linter.unusedSimpArgs false

/-- A slice: address, length, room. -/
structure Sl where
  a : Option Addr
  n : Nat
  c : Nat
/-- A machine as a value. -/
structure Mv where
  m : Sl
  r : Sl
  n : Bool
  z : Bool
  v : Bool
  c : Bool
  i : Sl
  o : Sl
  st : Int
def Mv.cs (x : Mv) : Array Value := #[.slice x.m.a x.m.n x.m.c, .slice x.r.a x.r.n x.r.c, .bool x.n, .bool x.z, .bool x.v, .bool x.c, .slice x.i.a x.i.n x.i.c, .slice x.o.a x.o.n x.o.c, .int .i64 x.st]
theorem Mv.cs_one (x : Mv) : x.cs.all (·.oneCell') = true := by simp [Mv.cs, Value.oneCell']
theorem Mv.cs_size (x : Mv) : x.cs.size = 9 := rfl

section
variable {w : World} {g : Nat} {x : Mv} {t : TypeId}
theorem row_m (h : w.heap[g]? = some (.cells x.cs t (0, 0))) : w.cell? ⟨g, 0, none⟩ = some (.slice x.m.a x.m.n x.m.c) := (cell_of_row w g 0 _ t _ h).trans rfl
theorem row_r (h : w.heap[g]? = some (.cells x.cs t (0, 0))) : w.cell? ⟨g, 1, none⟩ = some (.slice x.r.a x.r.n x.r.c) := (cell_of_row w g 1 _ t _ h).trans rfl
theorem row_n (h : w.heap[g]? = some (.cells x.cs t (0, 0))) : w.cell? ⟨g, 2, none⟩ = some (.bool x.n) := (cell_of_row w g 2 _ t _ h).trans rfl
theorem row_z (h : w.heap[g]? = some (.cells x.cs t (0, 0))) : w.cell? ⟨g, 3, none⟩ = some (.bool x.z) := (cell_of_row w g 3 _ t _ h).trans rfl
theorem row_v (h : w.heap[g]? = some (.cells x.cs t (0, 0))) : w.cell? ⟨g, 4, none⟩ = some (.bool x.v) := (cell_of_row w g 4 _ t _ h).trans rfl
theorem row_c (h : w.heap[g]? = some (.cells x.cs t (0, 0))) : w.cell? ⟨g, 5, none⟩ = some (.bool x.c) := (cell_of_row w g 5 _ t _ h).trans rfl
theorem row_i (h : w.heap[g]? = some (.cells x.cs t (0, 0))) : w.cell? ⟨g, 6, none⟩ = some (.slice x.i.a x.i.n x.i.c) := (cell_of_row w g 6 _ t _ h).trans rfl
theorem row_o (h : w.heap[g]? = some (.cells x.cs t (0, 0))) : w.cell? ⟨g, 7, none⟩ = some (.slice x.o.a x.o.n x.o.c) := (cell_of_row w g 7 _ t _ h).trans rfl
theorem row_st (h : w.heap[g]? = some (.cells x.cs t (0, 0))) : w.cell? ⟨g, 8, none⟩ = some (.int .i64 x.st) := (cell_of_row w g 8 _ t _ h).trans rfl
theorem row_fz (h : w.heap[g]? = some (.cells x.cs t (0, 0))) (j : Nat) : w.frozen? ⟨g, j, none⟩ = false := by simp [World.frozen?, h]
end

/-- What is left of l behind n, as a size. -/
def szL (l : Int) (n : Nat) : Int := if (n : Int) ≤ l then l - n else -1
def Mv.lens (x : Mv) : Prop := x.m.n ≤ maxLen ∧ x.r.n ≤ maxLen ∧ x.i.n ≤ maxLen ∧ x.o.n ≤ maxLen
def Mv.small (x : Mv) : Prop := x.m.n ≤ 1048576 ∧ x.r.n ≤ 1048576 ∧ x.i.n ≤ 1048576 ∧ x.o.n ≤ 1048576
theorem szL_bd (l : Int) (n : Nat) (h : l ≤ 1048576) : szL l n ≤ 1048576 ∧ (0 ≤ szL l n → (n : Int) ≤ 1048576) := by unfold szL; split <;> omega

set_option maxHeartbeats 400000 in
theorem szS_any (a : Option Addr) (n c : Nat) (l : Int) (w : World) (hn : n ≤ maxLen) (h0 : 0 ≤ l) (hl : l ≤ 1048576) : Calls Try.prog 77 #[.slice a n c, .int .i64 l] w fun e w' => e = .returned (.int .i64 (szL l n)) ∧ w' = w := by
  unfold maxLen at hn
  unfold szL
  by_cases h : (n : Int) ≤ l
  · rw [if_pos h]
    go_enter Try.func77, Try.ntmps77
    go_wp2
    go_ret
    exact ⟨rfl, rfl⟩
  · rw [if_neg h]
    go_enter Try.func77, Try.ntmps77
    go_wp2
    go_ret
    exact ⟨rfl, rfl⟩

set_option maxHeartbeats 1000000 in
theorem szM_any (x : Mv) (w : World) (hx : x.lens) : Calls Try.prog 38 #[.agg x.cs, .int .i64 1048576] w fun e w' => ∃ l : Int, e = .returned (.int .i64 l) ∧ (0 ≤ l → x.small) ∧ Below w.heap.size w w' := by
  obtain ⟨h1, h2, h3, h4⟩ := hx
  have HB := hide ((Below.refl w.heap.size w).alloc (Nat.le_refl _) (.cells x.cs 58))
  have H : (w.alloc (.cells x.cs 58)).heap[w.heap.size]? = some (.cells x.cs 58 (0, 0)) := heap_alloc_last w _
  have c0 := row_m H
  have c1 := row_r H
  have c6 := row_i H
  have c7 := row_o H
  clear H
  go_enter Try.func38, Try.ntmps38
  go_wp2_with fail
  refine (szS_any x.m.a x.m.n x.m.c 1048576 _ h1 (by omega) (by omega)).mono ?_
  rintro e w' ⟨rfl, rfl⟩
  have b1 := szL_bd 1048576 x.m.n (by omega)
  generalize szL 1048576 x.m.n = l1 at b1 ⊢
  by_cases p1 : l1 < 0
  · go_wp2
    go_ret
    exact ⟨-1, rfl, fun h => by omega, unhide HB⟩
  go_wp2_with fail
  refine (szS_any x.r.a x.r.n x.r.c l1 _ h2 (by omega) (by omega)).mono ?_
  rintro e w' ⟨rfl, rfl⟩
  have b2 := szL_bd l1 x.r.n (by omega)
  generalize szL l1 x.r.n = l2 at b2 ⊢
  by_cases p2 : l2 < 0
  · go_wp2
    go_ret
    exact ⟨-1, rfl, fun h => by omega, unhide HB⟩
  go_wp2_with fail
  refine (szS_any x.i.a x.i.n x.i.c l2 _ h3 (by omega) (by omega)).mono ?_
  rintro e w' ⟨rfl, rfl⟩
  have b3 := szL_bd l2 x.i.n (by omega)
  generalize szL l2 x.i.n = l3 at b3 ⊢
  by_cases p3 : l3 < 0
  · go_wp2
    go_ret
    exact ⟨-1, rfl, fun h => by omega, unhide HB⟩
  go_wp2_with fail
  refine (szS_any x.o.a x.o.n x.o.c l3 _ h4 (by omega) (by omega)).mono ?_
  rintro e w' ⟨rfl, rfl⟩
  have b4 := szL_bd l3 x.o.n (by omega)
  generalize szL l3 x.o.n = l4 at b4 ⊢
  by_cases p4 : l4 < 0
  · go_wp2
    go_ret
    exact ⟨-1, rfl, fun h => by omega, unhide HB⟩
  go_wp2
  go_ret
  exact ⟨l4, rfl, fun h => ⟨by omega, by omega, by omega, by omega⟩, unhide HB⟩
end Go.Proofs.Ytfkmibgamkignaa

namespace Go.Proofs.Ytfkmibgamkignaa
open Go.ChangeShapes Go.WideShapes Go.ChangeAt Go.RowKit
set_option linter.unusedVariables false
set_option maxRecDepth 8000
set_option linter.unusedSimpArgs false

/-- What the four lists of a machine hold. -/
structure Md where
  m : List Int
  r : List Int
  i : List Int
  o : List Int
def Sl.v (s : Sl) : Value := .slice s.a s.n s.c
/-- The flags, and how it stands. -/
def Mv.fl (x : Mv) : Bool × Bool × Bool × Bool × Int := (x.n, x.z, x.v, x.c, x.st)
theorem fl_n {x y : Mv} (h : y.fl = x.fl) : y.n = x.n := congrArg (·.1) h
theorem fl_z {x y : Mv} (h : y.fl = x.fl) : y.z = x.z := congrArg (·.2.1) h
theorem fl_v {x y : Mv} (h : y.fl = x.fl) : y.v = x.v := congrArg (·.2.2.1) h
theorem fl_c {x y : Mv} (h : y.fl = x.fl) : y.c = x.c := congrArg (·.2.2.2.1) h
theorem fl_st {x y : Mv} (h : y.fl = x.fl) : y.st = x.st := congrArg (·.2.2.2.2) h
/-- The machine x reads as d. -/
structure RdM (w : World) (x : Mv) (d : Md) : Prop where
  m : RdN w x.m.a d.m
  r : RdN w x.r.a d.r
  i : RdN w x.i.a d.i
  o : RdN w x.o.a d.o
  ml : d.m.length = x.m.n
  rl : d.r.length = x.r.n
  il : d.i.length = x.i.n
  ol : d.o.length = x.o.n
/-- Two slices in no block together. -/
def Ap (s t : Sl) : Prop := ∀ g, s.v.ownBlock = some g → t.v.ownBlock = some g → False
/-- The machine x is of blocks from B on, each list in a block of its own, and holds d. -/
structure OwnM (w : World) (B : Nat) (x : Mv) (d : Md) : Prop where
  m : OwnN w B x.m.v d.m
  r : OwnN w B x.r.v d.r
  i : OwnN w B x.i.v d.i
  o : OwnN w B x.o.v d.o
  mr : Ap x.m x.r
  mi : Ap x.m x.i
  mo : Ap x.m x.o
  ri : Ap x.r x.i
  ro : Ap x.r x.o
  io : Ap x.i x.o
theorem Ap.symm {s t : Sl} (h : Ap s t) : Ap t s := fun g a b => h g b a
theorem OwnN.len {w : World} {B : Nat} {s : Sl} {ns : List Int} (h : OwnN w B s.v ns) : ns.length = s.n := by
  obtain ⟨a, c, e, _⟩ := h.rd
  obtain ⟨sa, sn, sc⟩ := s
  unfold Sl.v at e
  simp at e
  exact e.2.1.symm
theorem OwnN.rdS {w : World} {B : Nat} {s : Sl} {ns : List Int} (h : OwnN w B s.v ns) : RdN w s.a ns := OwnN.rd1 (n := s.n) (cap := s.c) h
section
variable {w w' : World} {B C : Nat} {x y : Mv} {d e : Md}
theorem OwnM.rd (h : OwnM w B x d) : RdM w x d := ⟨h.m.rdS, h.r.rdS, h.i.rdS, h.o.rdS, h.m.len, h.r.len, h.i.len, h.o.len⟩
theorem RdM.later (h : RdM w x d) (hb : Below w.heap.size w w') : RdM w' x d := ⟨h.m.later hb, h.r.later hb, h.i.later hb, h.o.later hb, h.ml, h.rl, h.il, h.ol⟩
theorem OwnM.later (h : OwnM w B x d) (hb : Below w.heap.size w w') : OwnM w' B x d := { h with m := h.m.later hb, r := h.r.later hb, i := h.i.later hb, o := h.o.later hb }
theorem OwnM.keep (h : OwnM w B x d) (hs : ∀ g, B ≤ g → g < w.heap.size → w'.heap[g]? = w.heap[g]?) : OwnM w' B x d :=
  { h with m := h.m.keep fun g hv hg => hs g (h.m.lt hv).1 hg, r := h.r.keep fun g hv hg => hs g (h.r.lt hv).1 hg, i := h.i.keep fun g hv hg => hs g (h.i.lt hv).1 hg, o := h.o.keep fun g hv hg => hs g (h.o.lt hv).1 hg }
theorem OwnM.base (h : OwnM w B x d) (hB : C ≤ B) : OwnM w C x d := { h with m := h.m.base hB, r := h.r.base hB, i := h.i.base hB, o := h.o.base hB }
theorem Below.drop {B : Nat} {a w : World} {b j : Nat} {v : Value} (h : Below B a w) (hb : B ≤ b) : Below B a (w.setCell ⟨b, j, none⟩ v) := h.setCell (p := ⟨b, j, none⟩) hb v
theorem OwnN.put {w : World} {B b j : Nat} {v u : Value} {ns : List Int} (h : OwnN w B v ns) (hb : b < B) : OwnN (w.setCell ⟨b, j, none⟩ u) B v ns :=
  h.keep fun g hv hg => Below.heap_setCell w ⟨b, j, none⟩ u g (by have := (h.lt hv).1; show g ≠ b; omega)
end
/-- Blocks of two slices that are parted by a bound. -/
theorem ap_of {w w' : World} {B C : Nat} {s t : Sl} {ns ms : List Int} (h : OwnN w B s.v ns) (k : OwnN w' C t.v ms) (hC : w.heap.size ≤ C) : Ap s t := fun g a b => by
  have := (h.lt a).2
  have := (k.lt b).1
  omega
def zMv : Mv := ⟨⟨none, 0, 0⟩, ⟨none, 0, 0⟩, false, false, false, false, ⟨none, 0, 0⟩, ⟨none, 0, 0⟩, 0⟩
theorem row_put {w : World} {g : Nat} {x : Mv} {t : TypeId} (h : w.heap[g]? = some (.cells x.cs t (0, 0))) (j : Nat) (v : Value) (x' : Mv) (he : x.cs.setIfInBounds j v = x'.cs) : (w.setCell ⟨g, j, none⟩ v).heap[g]? = some (.cells x'.cs t (0, 0)) := by
  rw [setCell_eq_setRow w g j x.cs t (0, 0) v h, he]
  exact setRow_heap w g x.cs _ t _ h
theorem row_keep {w : World} {g b j : Nat} {u : Value} {o : Obj} (h : w.heap[g]? = some o) (hne : g ≠ b) : (w.setCell ⟨b, j, none⟩ u).heap[g]? = some o := (Below.heap_setCell w ⟨b, j, none⟩ u g hne).trans h
theorem row_lt {w : World} {g : Nat} {o : Obj} (h : w.heap[g]? = some o) : g < w.heap.size := (Array.getElem?_eq_some_iff.1 h).1
theorem row_lat {w w' : World} {g : Nat} {o : Obj} (h : w.heap[g]? = some o) (hb : Below w.heap.size w w') : w'.heap[g]? = some o := (hb.block g (row_lt h)).trans h
/-- While a machine is copied: what came in, the answer's place, what is made. -/
structure Cm (w wr : World) (tb : TypeId) (x o : Mv) : Prop where
  bx : wr.heap[w.heap.size]? = some (.cells x.cs tb (0, 0))
  re : wr.heap[w.heap.size + 1]? = some (.cells zMv.cs 28 (0, 0))
  out : wr.heap[w.heap.size + 1 + 1]? = some (.cells o.cs 28 (0, 0))
  bel : Below w.heap.size w wr
  sz : w.heap.size + 3 ≤ wr.heap.size
section
variable {w wr w' : World} {tb : TypeId} {x o : Mv}
theorem Cm.later (h : Cm w wr tb x o) (hb : Below wr.heap.size wr w') : Cm w w' tb x o :=
  ⟨row_lat h.bx hb, row_lat h.re hb, row_lat h.out hb, h.bel.trans (hb.mono (by have := h.bel.size; omega)), Nat.le_trans h.sz hb.size⟩
theorem Cm.put (h : Cm w wr tb x o) (j : Nat) (v : Value) (o' : Mv) (he : o.cs.setIfInBounds j v = o'.cs) : Cm w (wr.setCell ⟨w.heap.size + 1 + 1, j, none⟩ v) tb x o' :=
  ⟨row_keep h.bx (by omega), row_keep h.re (by omega), row_put h.out j v o' he, Below.drop h.bel (by omega), by simpa using h.sz⟩
theorem cm_new0 (w : World) (tb : TypeId) (x : Mv) : Cm w (((w.alloc (.cells x.cs tb)).alloc (.cells zMv.cs 28)).alloc (.cells zMv.cs 28)) tb x zMv := by
  have z1 : (w.alloc (.cells x.cs tb)).heap.size = w.heap.size + 1 := by simp
  have z2 : ((w.alloc (.cells x.cs tb)).alloc (.cells zMv.cs 28)).heap.size = w.heap.size + 2 := by simp
  have a1 := row_lat (row_lat (heap_alloc_last w (.cells x.cs tb)) ((Below.refl _ _).alloc (Nat.le_refl _) (.cells zMv.cs 28))) ((Below.refl _ _).alloc (Nat.le_refl _) (.cells zMv.cs 28))
  have a2 := row_lat (heap_alloc_last (w.alloc (.cells x.cs tb)) (.cells zMv.cs 28)) ((Below.refl _ _).alloc (Nat.le_refl _) (.cells zMv.cs 28))
  have a3 := heap_alloc_last ((w.alloc (.cells x.cs tb)).alloc (.cells zMv.cs 28)) (.cells zMv.cs 28)
  rw [z1] at a2
  rw [z2] at a3
  exact ⟨a1, a2, a3, (((Below.refl _ _).alloc (Nat.le_refl _) _).alloc (by omega) _).alloc (by omega) _, by simp⟩
theorem cm_new (w : World) (tb : TypeId) (x : Mv) : Cm w (((w.alloc (.cells x.cs tb)).alloc (.cells #[Value.slice none 0 0, Value.slice none 0 0, Value.bool false, Value.bool false, Value.bool false, Value.bool false, Value.slice none 0 0, Value.slice none 0 0, Value.int .i64 0] 28)).alloc (.cells #[Value.slice none 0 0, Value.slice none 0 0, Value.bool false, Value.bool false, Value.bool false, Value.bool false, Value.slice none 0 0, Value.slice none 0 0, Value.int .i64 0] 28)) tb x zMv := cm_new0 w tb x
end
theorem RdN.put {w : World} {a : Option Addr} {ns : List Int} (h : RdN w a ns) {b j : Nat} {v : Value} (hne : ns = [] ∨ ∀ ad, a = some ad → ad.block ≠ b) : RdN (w.setCell ⟨b, j, none⟩ v) a ns := by
  rcases hne with h0 | hne
  · exact .inl h0
  · exact h.past (grownBy_set v) hne
/-- What came in reads on while the copy is written. -/
theorem RdM.set {w wr : World} {x o : Mv} {d : Md} {tb : TypeId} (h : RdM wr x d) (k : Cm w wr tb x o) (hw : RdM w x d) (j : Nat) (v : Value) : RdM (wr.setCell ⟨w.heap.size + 1 + 1, j, none⟩ v) x d := by
  have key : ∀ {a : Option Addr} {ns : List Int}, RdN w a ns → ns = [] ∨ ∀ ad, a = some ad → ad.block ≠ w.heap.size + 1 + 1 := fun hr => by
    rcases hr with h0 | ⟨b, off, rfl, hb, _⟩
    · exact .inl h0
    · exact .inr fun ad e => by cases e; show b ≠ _; omega
  exact ⟨h.m.put (key hw.m), h.r.put (key hw.r), h.i.put (key hw.i), h.o.put (key hw.o), h.ml, h.rl, h.il, h.ol⟩
theorem setRow_size (w : World) (g : Nat) (cs : Array Value) : (w.setRow g cs).heap.size = w.heap.size := by simp [World.setRow]
/-- What stands when a copy is laid into the answer's place. -/
structure Cd (w wr : World) (o : Mv) : Prop where
  re : wr.heap[w.heap.size + 1]? = some (.cells o.cs 28 (0, 0))
  bel : Below w.heap.size w wr
theorem Cm.done {w wr : World} {tb : TypeId} {x o : Mv} (h : Cm w wr tb x o) : Cd w (wr.setRow (w.heap.size + 1) o.cs) o :=
  ⟨setRow_heap wr _ zMv.cs _ 28 _ h.re, below_setRow h.bel (by omega) _⟩
theorem OwnN.row {w : World} {B g : Nat} {v : Value} {ns : List Int} (h : OwnN w B v ns) (hb : g < B) (cs : Array Value) : OwnN (w.setRow g cs) B v ns :=
  h.keep fun j hv hj => setRow_other w g j cs (by have := (h.lt hv).1; omega)

set_option maxHeartbeats 4000000 in
theorem toM_any (x : Mv) (d : Md) (w : World) (hs : x.small) (hr : RdM w x d) : Calls Try.prog 40 #[.agg x.cs] w fun e w' => ∃ y : Mv, e = .returned (.agg y.cs) ∧ y.fl = x.fl ∧ OwnM w' (w.heap.size + 3) y d ∧ Below w.heap.size w w' := by
  obtain ⟨s0, s1, s2, s3⟩ := hs
  have C := hide (cm_new w 58 x)
  have HR := hide hr
  have R := hide (hr.later (unhide C).bel)
  have q0 : x.cs[0]? = some (.slice x.m.a x.m.n x.m.c) := rfl
  have T := hide (toIntS_any x.m.a x.m.n x.m.c d.m _ hr.ml s0 (unhide R).m)
  clear hr
  go_enter Try.func40, Try.ntmps40
  go_wp2_with fail
  refine (unhide T).mono ?_
  rintro e w0 ⟨v, rfl, own, bel⟩
  obtain ⟨a0, n0, c0, rfl⟩ : ∃ a n c, v = .slice a n c := by obtain ⟨a, c, e, _⟩ := own.rd; exact ⟨_, _, _, e⟩
  have Cn := hide ((unhide C).later bel)
  have Rn := hide ((unhide R).later bel)
  have O0 := hide (OwnN.base own (B' := w.heap.size + 3) (unhide C).sz)
  clear own bel T C R q0
  have o0 := row_m (unhide Cn).out
  have f0 := row_fz (unhide Cn).out 0
  have b1 := row_r (unhide Cn).bx
  have C := hide ((unhide Cn).put 0 (.slice a0 n0 c0) (⟨⟨a0, n0, c0⟩, ⟨none, 0, 0⟩, false, false, false, false, ⟨none, 0, 0⟩, ⟨none, 0, 0⟩, 0⟩ : Mv) rfl)
  have R := hide ((unhide Rn).set (unhide Cn) (unhide HR) 0 (.slice a0 n0 c0))
  have On := hide ((unhide O0).put (b := w.heap.size + 1 + 1) (j := 0) (u := .slice a0 n0 c0) (by omega))
  clear O0
  have O0 := hide (unhide On)
  clear On
  have T := hide (toIntS_any x.r.a x.r.n x.r.c d.r _ (unhide R).rl s1 (unhide R).r)
  clear Cn Rn
  go_wp2_with fail
  refine (unhide T).mono ?_
  rintro e w1 ⟨v, rfl, own, bel⟩
  obtain ⟨a1, n1, c1, rfl⟩ : ∃ a n c, v = .slice a n c := by obtain ⟨a, c, e, _⟩ := own.rd; exact ⟨_, _, _, e⟩
  have Cn := hide ((unhide C).later bel)
  have Rn := hide ((unhide R).later bel)
  have O1 := hide (OwnN.base own (B' := w.heap.size + 3) (unhide C).sz)
  have On := hide ((unhide O0).later bel)
  have A01 : Hid (Ap ⟨a0, n0, c0⟩ ⟨a1, n1, c1⟩) := hide (ap_of (unhide O0) own (Nat.le_refl _))
  clear O0
  have O0 := hide (unhide On)
  clear On
  clear own bel T C R
  have o1 := row_r (unhide Cn).out
  have f1 := row_fz (unhide Cn).out 1
  have o2 := row_n (unhide Cn).out
  have f2 := row_fz (unhide Cn).out 2
  have b2 := row_n (unhide Cn).bx
  have o3 := row_z (unhide Cn).out
  have f3 := row_fz (unhide Cn).out 3
  have b3 := row_z (unhide Cn).bx
  have o4 := row_v (unhide Cn).out
  have f4 := row_fz (unhide Cn).out 4
  have b4 := row_v (unhide Cn).bx
  have o5 := row_c (unhide Cn).out
  have f5 := row_fz (unhide Cn).out 5
  have b5 := row_c (unhide Cn).bx
  have b6 := row_i (unhide Cn).bx
  have C := hide ((((((unhide Cn).put 1 (.slice a1 n1 c1) (⟨⟨a0, n0, c0⟩, ⟨a1, n1, c1⟩, false, false, false, false, ⟨none, 0, 0⟩, ⟨none, 0, 0⟩, 0⟩ : Mv) rfl).put 2 (.bool x.n) (⟨⟨a0, n0, c0⟩, ⟨a1, n1, c1⟩, x.n, false, false, false, ⟨none, 0, 0⟩, ⟨none, 0, 0⟩, 0⟩ : Mv) rfl).put 3 (.bool x.z) (⟨⟨a0, n0, c0⟩, ⟨a1, n1, c1⟩, x.n, x.z, false, false, ⟨none, 0, 0⟩, ⟨none, 0, 0⟩, 0⟩ : Mv) rfl).put 4 (.bool x.v) (⟨⟨a0, n0, c0⟩, ⟨a1, n1, c1⟩, x.n, x.z, x.v, false, ⟨none, 0, 0⟩, ⟨none, 0, 0⟩, 0⟩ : Mv) rfl).put 5 (.bool x.c) (⟨⟨a0, n0, c0⟩, ⟨a1, n1, c1⟩, x.n, x.z, x.v, x.c, ⟨none, 0, 0⟩, ⟨none, 0, 0⟩, 0⟩ : Mv) rfl)
  have R := hide ((((((unhide Rn).set (unhide Cn) (unhide HR) 1 (.slice a1 n1 c1)).set ((unhide Cn).put 1 (.slice a1 n1 c1) (⟨⟨a0, n0, c0⟩, ⟨a1, n1, c1⟩, false, false, false, false, ⟨none, 0, 0⟩, ⟨none, 0, 0⟩, 0⟩ : Mv) rfl) (unhide HR) 2 (.bool x.n)).set (((unhide Cn).put 1 (.slice a1 n1 c1) (⟨⟨a0, n0, c0⟩, ⟨a1, n1, c1⟩, false, false, false, false, ⟨none, 0, 0⟩, ⟨none, 0, 0⟩, 0⟩ : Mv) rfl).put 2 (.bool x.n) (⟨⟨a0, n0, c0⟩, ⟨a1, n1, c1⟩, x.n, false, false, false, ⟨none, 0, 0⟩, ⟨none, 0, 0⟩, 0⟩ : Mv) rfl) (unhide HR) 3 (.bool x.z)).set ((((unhide Cn).put 1 (.slice a1 n1 c1) (⟨⟨a0, n0, c0⟩, ⟨a1, n1, c1⟩, false, false, false, false, ⟨none, 0, 0⟩, ⟨none, 0, 0⟩, 0⟩ : Mv) rfl).put 2 (.bool x.n) (⟨⟨a0, n0, c0⟩, ⟨a1, n1, c1⟩, x.n, false, false, false, ⟨none, 0, 0⟩, ⟨none, 0, 0⟩, 0⟩ : Mv) rfl).put 3 (.bool x.z) (⟨⟨a0, n0, c0⟩, ⟨a1, n1, c1⟩, x.n, x.z, false, false, ⟨none, 0, 0⟩, ⟨none, 0, 0⟩, 0⟩ : Mv) rfl) (unhide HR) 4 (.bool x.v)).set (((((unhide Cn).put 1 (.slice a1 n1 c1) (⟨⟨a0, n0, c0⟩, ⟨a1, n1, c1⟩, false, false, false, false, ⟨none, 0, 0⟩, ⟨none, 0, 0⟩, 0⟩ : Mv) rfl).put 2 (.bool x.n) (⟨⟨a0, n0, c0⟩, ⟨a1, n1, c1⟩, x.n, false, false, false, ⟨none, 0, 0⟩, ⟨none, 0, 0⟩, 0⟩ : Mv) rfl).put 3 (.bool x.z) (⟨⟨a0, n0, c0⟩, ⟨a1, n1, c1⟩, x.n, x.z, false, false, ⟨none, 0, 0⟩, ⟨none, 0, 0⟩, 0⟩ : Mv) rfl).put 4 (.bool x.v) (⟨⟨a0, n0, c0⟩, ⟨a1, n1, c1⟩, x.n, x.z, x.v, false, ⟨none, 0, 0⟩, ⟨none, 0, 0⟩, 0⟩ : Mv) rfl) (unhide HR) 5 (.bool x.c))
  have On := hide ((((((unhide O0).put (b := w.heap.size + 1 + 1) (j := 1) (u := .slice a1 n1 c1) (by omega)).put (b := w.heap.size + 1 + 1) (j := 2) (u := .bool x.n) (by omega)).put (b := w.heap.size + 1 + 1) (j := 3) (u := .bool x.z) (by omega)).put (b := w.heap.size + 1 + 1) (j := 4) (u := .bool x.v) (by omega)).put (b := w.heap.size + 1 + 1) (j := 5) (u := .bool x.c) (by omega))
  clear O0
  have O0 := hide (unhide On)
  clear On
  have On := hide ((((((unhide O1).put (b := w.heap.size + 1 + 1) (j := 1) (u := .slice a1 n1 c1) (by omega)).put (b := w.heap.size + 1 + 1) (j := 2) (u := .bool x.n) (by omega)).put (b := w.heap.size + 1 + 1) (j := 3) (u := .bool x.z) (by omega)).put (b := w.heap.size + 1 + 1) (j := 4) (u := .bool x.v) (by omega)).put (b := w.heap.size + 1 + 1) (j := 5) (u := .bool x.c) (by omega))
  clear O1
  have O1 := hide (unhide On)
  clear On
  have T := hide (toIntS_any x.i.a x.i.n x.i.c d.i _ (unhide R).il s2 (unhide R).i)
  clear Cn Rn
  go_wp2_with fail
  refine (unhide T).mono ?_
  rintro e w2 ⟨v, rfl, own, bel⟩
  obtain ⟨a2, n2, c2, rfl⟩ : ∃ a n c, v = .slice a n c := by obtain ⟨a, c, e, _⟩ := own.rd; exact ⟨_, _, _, e⟩
  have Cn := hide ((unhide C).later bel)
  have Rn := hide ((unhide R).later bel)
  have O2 := hide (OwnN.base own (B' := w.heap.size + 3) (unhide C).sz)
  have On := hide ((unhide O0).later bel)
  have A02 : Hid (Ap ⟨a0, n0, c0⟩ ⟨a2, n2, c2⟩) := hide (ap_of (unhide O0) own (Nat.le_refl _))
  clear O0
  have O0 := hide (unhide On)
  clear On
  have On := hide ((unhide O1).later bel)
  have A12 : Hid (Ap ⟨a1, n1, c1⟩ ⟨a2, n2, c2⟩) := hide (ap_of (unhide O1) own (Nat.le_refl _))
  clear O1
  have O1 := hide (unhide On)
  clear On
  clear own bel T C R
  have o6 := row_i (unhide Cn).out
  have f6 := row_fz (unhide Cn).out 6
  have b7 := row_o (unhide Cn).bx
  have C := hide ((unhide Cn).put 6 (.slice a2 n2 c2) (⟨⟨a0, n0, c0⟩, ⟨a1, n1, c1⟩, x.n, x.z, x.v, x.c, ⟨a2, n2, c2⟩, ⟨none, 0, 0⟩, 0⟩ : Mv) rfl)
  have R := hide ((unhide Rn).set (unhide Cn) (unhide HR) 6 (.slice a2 n2 c2))
  have On := hide ((unhide O0).put (b := w.heap.size + 1 + 1) (j := 6) (u := .slice a2 n2 c2) (by omega))
  clear O0
  have O0 := hide (unhide On)
  clear On
  have On := hide ((unhide O1).put (b := w.heap.size + 1 + 1) (j := 6) (u := .slice a2 n2 c2) (by omega))
  clear O1
  have O1 := hide (unhide On)
  clear On
  have On := hide ((unhide O2).put (b := w.heap.size + 1 + 1) (j := 6) (u := .slice a2 n2 c2) (by omega))
  clear O2
  have O2 := hide (unhide On)
  clear On
  have T := hide (toIntS_any x.o.a x.o.n x.o.c d.o _ (unhide R).ol s3 (unhide R).o)
  clear Cn Rn
  go_wp2_with fail
  refine (unhide T).mono ?_
  rintro e w3 ⟨v, rfl, own, bel⟩
  obtain ⟨a3, n3, c3, rfl⟩ : ∃ a n c, v = .slice a n c := by obtain ⟨a, c, e, _⟩ := own.rd; exact ⟨_, _, _, e⟩
  have Cn := hide ((unhide C).later bel)
  have Rn := hide ((unhide R).later bel)
  have O3 := hide (OwnN.base own (B' := w.heap.size + 3) (unhide C).sz)
  have On := hide ((unhide O0).later bel)
  have A03 : Hid (Ap ⟨a0, n0, c0⟩ ⟨a3, n3, c3⟩) := hide (ap_of (unhide O0) own (Nat.le_refl _))
  clear O0
  have O0 := hide (unhide On)
  clear On
  have On := hide ((unhide O1).later bel)
  have A13 : Hid (Ap ⟨a1, n1, c1⟩ ⟨a3, n3, c3⟩) := hide (ap_of (unhide O1) own (Nat.le_refl _))
  clear O1
  have O1 := hide (unhide On)
  clear On
  have On := hide ((unhide O2).later bel)
  have A23 : Hid (Ap ⟨a2, n2, c2⟩ ⟨a3, n3, c3⟩) := hide (ap_of (unhide O2) own (Nat.le_refl _))
  clear O2
  have O2 := hide (unhide On)
  clear On
  clear own bel T C R
  have o7 := row_o (unhide Cn).out
  have f7 := row_fz (unhide Cn).out 7
  have o8 := row_st (unhide Cn).out
  have f8 := row_fz (unhide Cn).out 8
  have b8 := row_st (unhide Cn).bx
  have C := hide (((unhide Cn).put 7 (.slice a3 n3 c3) (⟨⟨a0, n0, c0⟩, ⟨a1, n1, c1⟩, x.n, x.z, x.v, x.c, ⟨a2, n2, c2⟩, ⟨a3, n3, c3⟩, 0⟩ : Mv) rfl).put 8 (.int .i64 x.st) (⟨⟨a0, n0, c0⟩, ⟨a1, n1, c1⟩, x.n, x.z, x.v, x.c, ⟨a2, n2, c2⟩, ⟨a3, n3, c3⟩, x.st⟩ : Mv) rfl)
  have On := hide (((unhide O0).put (b := w.heap.size + 1 + 1) (j := 7) (u := .slice a3 n3 c3) (by omega)).put (b := w.heap.size + 1 + 1) (j := 8) (u := .int .i64 x.st) (by omega))
  clear O0
  have O0 := hide (unhide On)
  clear On
  have On := hide (((unhide O1).put (b := w.heap.size + 1 + 1) (j := 7) (u := .slice a3 n3 c3) (by omega)).put (b := w.heap.size + 1 + 1) (j := 8) (u := .int .i64 x.st) (by omega))
  clear O1
  have O1 := hide (unhide On)
  clear On
  have On := hide (((unhide O2).put (b := w.heap.size + 1 + 1) (j := 7) (u := .slice a3 n3 c3) (by omega)).put (b := w.heap.size + 1 + 1) (j := 8) (u := .int .i64 x.st) (by omega))
  clear O2
  have O2 := hide (unhide On)
  clear On
  have On := hide (((unhide O3).put (b := w.heap.size + 1 + 1) (j := 7) (u := .slice a3 n3 c3) (by omega)).put (b := w.heap.size + 1 + 1) (j := 8) (u := .int .i64 x.st) (by omega))
  clear O3
  have O3 := hide (unhide On)
  clear On
  clear Cn Rn
  go_wp2_with (first | (refine wpList_load_row rfl 28 _ rfl (w.heap.size + 1 + 1) rfl 28 (Mv.cs (⟨⟨a0, n0, c0⟩, ⟨a1, n1, c1⟩, x.n, x.z, x.v, x.c, ⟨a2, n2, c2⟩, ⟨a3, n3, c3⟩, x.st⟩ : Mv)) (0, 0) _ (unhide C).out Try.underlying28 rfl (by kernel_rfl) ?_) | (refine wpList_store_row rfl 28 _ _ rfl (w.heap.size + 1) (Mv.cs (⟨⟨a0, n0, c0⟩, ⟨a1, n1, c1⟩, x.n, x.z, x.v, x.c, ⟨a2, n2, c2⟩, ⟨a3, n3, c3⟩, x.st⟩ : Mv)) rfl rfl 28 zMv.cs (unhide C).re (by kernel_rfl) rfl (Mv.cs_one _) ?_))
  refine bodyPost_ret (results_cell_row (P := Try.prog) rfl _ _ (w.heap.size + 1) 28 (Mv.cs (⟨⟨a0, n0, c0⟩, ⟨a1, n1, c1⟩, x.n, x.z, x.v, x.c, ⟨a2, n2, c2⟩, ⟨a3, n3, c3⟩, x.st⟩ : Mv)) (0, 0) _ rfl (unhide C).done.re Try.underlying28 rfl (by kernel_rfl)) rfl ?_
  exact ⟨(⟨⟨a0, n0, c0⟩, ⟨a1, n1, c1⟩, x.n, x.z, x.v, x.c, ⟨a2, n2, c2⟩, ⟨a3, n3, c3⟩, x.st⟩ : Mv), rfl, rfl, ⟨(unhide O0).row (by omega) _, (unhide O1).row (by omega) _, (unhide O2).row (by omega) _, (unhide O3).row (by omega) _, unhide A01, unhide A02, unhide A03, unhide A12, unhide A13, unhide A23⟩, (unhide C).done.bel⟩
end Go.Proofs.Ytfkmibgamkignaa

namespace Go.Proofs.Ytfkmibgamkignaa
open Go.ChangeShapes Go.WideShapes Go.ChangeAt Go.RowKit
set_option linter.unusedVariables false
set_option maxRecDepth 8000
set_option linter.unusedSimpArgs false

theorem i64_and65535 (n : Int) : bits .and .i64 n 65535 = n % 65536 := by
  have h127 : (BitVec.ofInt 64 65535).toNat = 2 ^ 16 - 1 := by decide
  have key : (BitVec.ofInt 64 n &&& BitVec.ofInt 64 65535).toNat = (n % ((2 ^ 64 : Nat) : Int)).toNat % 2 ^ 16 := by
    rw [BitVec.toNat_and, BitVec.toNat_ofInt, h127, Nat.and_two_pow_sub_one_eq_mod]
  show IntKind.i64.wrap ((BitVec.ofInt 64 n &&& BitVec.ofInt 64 65535).toNat : Nat) = n % 65536
  rw [key, IntKind.wrap_i64]
  omega
theorem ret_int {k : IntKind} {a b : Int} (h : a = b) : Ending.returned (.int k a) = .returned (.int k b) := by rw [h]
theorem ret_bool {a b : Bool} (h : a = b) : Ending.returned (.bool a) = .returned (.bool b) := by rw [h]
theorem wrapI_any (n : Int) (w : World) : Calls Try.prog 21 #[.int .i64 n] w fun e w' => e = .returned (.int .i64 (n % 65536)) ∧ w' = w := by
  go_enter Try.func21, Try.ntmps21
  go_wp2
  go_ret
  exact ⟨ret_int (i64_and65535 n), rfl⟩
theorem wrapS_any (n : Int) (w : World) : Calls Try.prog 75 #[.int .i64 n] w fun e w' => e = .returned (.int .i64 (n % 65536)) ∧ w' = w := by
  go_enter Try.func75, Try.ntmps75
  go_wp2
  go_ret
  exact ⟨ret_int (i64_and65535 n), rfl⟩
theorem isWord_eq (n : Int) : (n == n % 65536) = inB n 0 65535 := by
  unfold inB
  rw [Bool.eq_iff_iff]
  simp
  omega
theorem isWord_any (n : Int) (w : World) : Calls Try.prog 51 #[.int .i64 n] w fun e w' => e = .returned (.bool (inB n 0 65535)) ∧ w' = w := by
  rw [← isWord_eq]
  obtain ⟨q, hq⟩ : ∃ q, n % 65536 = q := ⟨_, rfl⟩
  have W := hide (fun w => hq ▸ wrapI_any n w)
  rw [hq]
  clear hq
  go_enter Try.func51, Try.ntmps51
  go_wp2_with (go_at_call 21; refine (unhide W _).mono ?_; rintro e w' ⟨rfl, rfl⟩)
  go_ret
  exact ⟨rfl, rfl⟩

/-- Are these words? -/
def wdB (ns : List Int) : Bool := ns.all fun x => inB x 0 65535
theorem wdB_snoc (ns : List Int) (k : Nat) (h : k < ns.length) : wdB (ns.take (k + 1)) = (wdB (ns.take k) && inB (nAt ns k) 0 65535) := by
  rw [take_nAt ns k h]; simp [wdB]
theorem wdB_no (ns : List Int) (k : Nat) (h : k < ns.length) (hb : inB (nAt ns k) 0 65535 = false) : wdB ns = false := by
  unfold wdB
  rw [List.all_eq_false]
  refine ⟨nAt ns k, ?_, by simp [hb]⟩
  unfold nAt
  rw [List.getD_eq_getElem?_getD, List.getElem?_eq_getElem h]
  exact List.getElem_mem _
theorem wdB_at {ns : List Int} (h : wdB ns = true) {k : Nat} (hk : k < ns.length) : 0 ≤ nAt ns k ∧ nAt ns k ≤ 65535 := by
  cases hb : inB (nAt ns k) 0 65535
  · rw [wdB_no ns k hk hb] at h; cases h
  · unfold inB at hb; simp at hb; exact hb

set_option maxHeartbeats 400000 in
theorem wordsS_any (a : Option Addr) (len cap : Nat) (ns : List Int) (w : World) (hl : ns.length = len) (hm : len ≤ 1099511627776) (hr : RdN w a ns) :
    Calls Try.prog 60 #[.slice a len cap] w fun e w' => e = .returned (.bool (wdB ns)) ∧ w' = w := by
  go_enter Try.func60, Try.ntmps60
  go_wp2
  go_loop [3] (fun i => ∃ k : Nat, k ≤ len ∧ wdB (ns.take k) = true ∧ i = .int .i64 k) (fun i => len - (intOf i).toNat)
  case atStart => exact ⟨0, Nat.zero_le _, rfl, rfl⟩
  case round =>
    obtain ⟨k, hk, hw, rfl⟩ := hrel
    by_cases hlt : k < len
    · rcases hr with rfl | ⟨b, off, rfl, hb, hc⟩
      · simp at hl; omega
      have hcx := hc k (by omega)
      have HW := hide (wdB_snoc ns k (by omega))
      have HN := hide (wdB_no ns k (by omega))
      have HK := hide hw
      clear hc hw
      generalize nAt ns k = x at hcx HW HN ⊢
      have I1 := hide (fun w => in_any x 0 65535 w)
      obtain ⟨q, hq⟩ : ∃ q, inB x 0 65535 = q := ⟨_, rfl⟩
      rw [hq] at HW HN I1
      clear hq
      cases q
      · go_wp2_with (go_at_call 59; refine (unhide I1 _).mono ?_; rintro e w' ⟨rfl, hw'⟩; rw [hw']; clear hw' w')
        go_ret
        exact ⟨ret_bool (unhide HN (by trivial)).symm, rfl⟩
      · go_wp2_with (go_at_call 59; refine (unhide I1 _).mono ?_; rintro e w' ⟨rfl, hw'⟩; rw [hw']; clear hw' w')
        go_round
        case rel => exact ⟨k + 1, by omega, by rw [unhide HW, unhide HK]; rfl, by go_num⟩
        case measure => simp [intOf]; omega
    · have HK := hide hw
      clear hw
      go_wp2
      go_ret
      have := unhide HK
      rw [List.take_of_length_le (by omega)] at this
      exact ⟨ret_bool this.symm, rfl⟩

set_option maxHeartbeats 400000 in
theorem wordsI_any (a : Option Addr) (len cap : Nat) (ns : List Int) (w : World) (hl : ns.length = len) (hm : len ≤ 1099511627776) (hr : RdN w a ns) :
    Calls Try.prog 50 #[.slice a len cap] w fun e w' => e = .returned (.bool (wdB ns)) ∧ w' = w := by
  go_enter Try.func50, Try.ntmps50
  go_wp2
  go_loop [4, 7] (fun _ i => ∃ k : Nat, k ≤ len ∧ wdB (ns.take k) = true ∧ i = .int .i64 k) (fun _ i => len - (intOf i).toNat)
  case atStart => exact ⟨0, Nat.zero_le _, rfl, rfl⟩
  case round =>
    obtain ⟨k, hk, hw, rfl⟩ := hrel
    by_cases hlt : k < len
    · rcases hr with rfl | ⟨b, off, rfl, hb, hc⟩
      · simp at hl; omega
      have hcx := hc k (by omega)
      have HW := hide (wdB_snoc ns k (by omega))
      have HN := hide (wdB_no ns k (by omega))
      have HK := hide hw
      clear hc hw
      generalize nAt ns k = x at hcx HW HN ⊢
      have I1 := hide (fun w => isWord_any x w)
      obtain ⟨q, hq⟩ : ∃ q, inB x 0 65535 = q := ⟨_, rfl⟩
      rw [hq] at HW HN I1
      clear hq
      cases q
      · go_wp2_with (go_at_call 51; refine (unhide I1 _).mono ?_; rintro e w' ⟨rfl, hw'⟩; rw [hw']; clear hw' w')
        go_ret
        exact ⟨ret_bool (unhide HN (by trivial)).symm, rfl⟩
      · go_wp2_with (go_at_call 51; refine (unhide I1 _).mono ?_; rintro e w' ⟨rfl, hw'⟩; rw [hw']; clear hw' w')
        go_round
        case rel => exact ⟨k + 1, by omega, by rw [unhide HW, unhide HK]; rfl, by go_num⟩
        case measure => simp [intOf]; omega
    · have HK := hide hw
      clear hw
      go_wp2
      go_ret
      have := unhide HK
      rw [List.take_of_length_le (by omega)] at this
      exact ⟨ret_bool this.symm, rfl⟩

/-- Two machines in boxes. -/
structure Tw (w wr : World) (x y : Mv) : Prop where
  bx : wr.heap[w.heap.size]? = some (.cells x.cs 28 (0, 0))
  by' : wr.heap[w.heap.size + 1]? = some (.cells y.cs 28 (0, 0))
  bel : Below w.heap.size w wr
theorem Tw.later {w wr w' : World} {x y : Mv} (h : Tw w wr x y) (hb : Below wr.heap.size wr w') : Tw w w' x y :=
  ⟨row_lat h.bx hb, row_lat h.by' hb, h.bel.trans (hb.mono (by have := h.bel.size; omega))⟩
theorem tw_new (w : World) (x y : Mv) : Tw w ((w.alloc (.cells x.cs 28)).alloc (.cells y.cs 28)) x y := by
  have z1 : (w.alloc (.cells x.cs 28)).heap.size = w.heap.size + 1 := by simp
  have a1 := row_lat (heap_alloc_last w (.cells x.cs 28)) ((Below.refl _ _).alloc (Nat.le_refl _) (.cells y.cs 28))
  have a2 := heap_alloc_last (w.alloc (.cells x.cs 28)) (.cells y.cs 28)
  rw [z1] at a2
  exact ⟨a1, a2, ((Below.refl _ _).alloc (Nat.le_refl _) _).alloc (by omega) _⟩

set_option maxHeartbeats 2000000 in
theorem eqM_any (x y : Mv) (d : Md) (w : World) (hf : y.fl = x.fl) (hs : x.small) (hx : RdM w x d) (hy : RdM w y d) : Calls Try.prog 33 #[.agg x.cs, .agg y.cs] w fun e w' => e = .returned (.bool true) ∧ Below w.heap.size w w' := by
  have T := hide (tw_new w x y)
  have X := hide (hx.later (unhide T).bel)
  have Y := hide (hy.later (unhide T).bel)
  have p0 : x.cs[0]? = some (.slice x.m.a x.m.n x.m.c) := rfl
  have q0 : y.cs[0]? = some (.slice y.m.a x.m.n y.m.c) := by rw [← hx.ml, hy.ml]; rfl
  have E := hide (eqIntS_same x.m.a y.m.a x.m.n x.m.c y.m.c d.m _ hx.ml (by have := hs.1; omega) (unhide X).m (unhide Y).m)
  have F := hide hf
  have S := hide hs
  clear hf hs hx hy
  go_enter Try.func33, Try.ntmps33
  go_wp2_with fail
  refine (unhide E).mono ?_
  rintro e w1 ⟨rfl, hb⟩
  have T1 := hide ((unhide T).later hb)
  have X1 := hide ((unhide X).later hb)
  have Y1 := hide ((unhide Y).later hb)
  clear hb T X Y E p0 q0
  have p0 := row_r (unhide T1).bx
  have q0 : w1.cell? ⟨w.heap.size + 1, 1, none⟩ = some (.slice y.r.a x.r.n y.r.c) := by rw [← (unhide X1).rl, (unhide Y1).rl]; exact row_r (unhide T1).by'
  have E := hide (eqIntS_same x.r.a y.r.a x.r.n x.r.c y.r.c d.r _ (unhide X1).rl (by have := (unhide S).2.1; omega) (unhide X1).r (unhide Y1).r)
  go_wp2_with fail
  refine (unhide E).mono ?_
  rintro e w2 ⟨rfl, hb⟩
  have T := hide ((unhide T1).later hb)
  have X := hide ((unhide X1).later hb)
  have Y := hide ((unhide Y1).later hb)
  clear hb T1 X1 Y1 E p0 q0
  have p2 := row_n (unhide T).bx
  have q2 := (row_n (unhide T).by').trans (by rw [fl_n (unhide F)])
  have p3 := row_z (unhide T).bx
  have q3 := (row_z (unhide T).by').trans (by rw [fl_z (unhide F)])
  have p4 := row_v (unhide T).bx
  have q4 := (row_v (unhide T).by').trans (by rw [fl_v (unhide F)])
  have p5 := row_c (unhide T).bx
  have q5 := (row_c (unhide T).by').trans (by rw [fl_c (unhide F)])
  have p0 := row_i (unhide T).bx
  have q0 : w2.cell? ⟨w.heap.size + 1, 6, none⟩ = some (.slice y.i.a x.i.n y.i.c) := by rw [← (unhide X).il, (unhide Y).il]; exact row_i (unhide T).by'
  have E := hide (eqIntS_same x.i.a y.i.a x.i.n x.i.c y.i.c d.i _ (unhide X).il (by have := (unhide S).2.2.1; omega) (unhide X).i (unhide Y).i)
  go_wp2_with fail
  refine (unhide E).mono ?_
  rintro e w3 ⟨rfl, hb⟩
  have T1 := hide ((unhide T).later hb)
  have X1 := hide ((unhide X).later hb)
  have Y1 := hide ((unhide Y).later hb)
  clear hb T X Y E p0 q0 p2 q2 p3 q3 p4 q4 p5 q5
  have p0 := row_o (unhide T1).bx
  have q0 : w3.cell? ⟨w.heap.size + 1, 7, none⟩ = some (.slice y.o.a x.o.n y.o.c) := by rw [← (unhide X1).ol, (unhide Y1).ol]; exact row_o (unhide T1).by'
  have E := hide (eqIntS_same x.o.a y.o.a x.o.n x.o.c y.o.c d.o _ (unhide X1).ol (by have := (unhide S).2.2.2; omega) (unhide X1).o (unhide Y1).o)
  go_wp2_with fail
  refine (unhide E).mono ?_
  rintro e w4 ⟨rfl, hb⟩
  have T := hide ((unhide T1).later hb)
  clear hb T1 X1 Y1 E p0 q0
  have p8 := row_st (unhide T).bx
  have q8 := (row_st (unhide T).by').trans (by rw [fl_st (unhide F)])
  go_wp2
  go_ret
  exact ⟨rfl, (unhide T).bel⟩
end Go.Proofs.Ytfkmibgamkignaa

namespace Go.Proofs.Ytfkmibgamkignaa
open Go.ChangeShapes Go.WideShapes Go.ChangeAt Go.RowKit
set_option linter.unusedVariables false
set_option maxRecDepth 8000
set_option linter.unusedSimpArgs false

/-- Is the machine right? -/
def Md.ok (d : Md) (st : Int) : Bool :=
  ((d.m.length : Int) == 256) && (wdB d.m && (((d.r.length : Int) == 8) && (wdB d.r && (decide ((d.i.length : Int) ≤ 50) && (wdB d.i && (decide ((d.o.length : Int) ≤ 50) && (wdB d.o && inB st 0 2)))))))
theorem box_row (w : World) (x : Mv) (t : TypeId) : (w.alloc (.cells x.cs t)).heap[w.heap.size]? = some (.cells x.cs t (0, 0)) := heap_alloc_last w _

set_option maxHeartbeats 4000000 in
theorem okS_any (x : Mv) (d : Md) (w : World) (hs : x.small) (hx : RdM w x d) : Calls Try.prog 69 #[.agg x.cs] w fun e w' => e = .returned (.bool (d.ok x.st)) ∧ Below w.heap.size w w' := by
  have HB := hide ((Below.refl w.heap.size w).alloc (Nat.le_refl _) (.cells x.cs 28))
  have X := hide (hx.later (unhide HB))
  have W2 := hide (wordsS_any x.m.a x.m.n x.m.c d.m _ hx.ml (by have := hs.1; omega) (unhide X).m)
  have W4 := hide (wordsS_any x.r.a x.r.n x.r.c d.r _ hx.rl (by have := hs.2.1; omega) (unhide X).r)
  have W6 := hide (wordsS_any x.i.a x.i.n x.i.c d.i _ hx.il (by have := hs.2.2.1; omega) (unhide X).i)
  have W8 := hide (wordsS_any x.o.a x.o.n x.o.c d.o _ hx.ol (by have := hs.2.2.2; omega) (unhide X).o)
  have W9 := hide (fun w => in_any x.st 0 2 w)
  have c0 : x.cs[0]? = some (.slice x.m.a x.m.n x.m.c) := rfl
  have c1 : x.cs[1]? = some (.slice x.r.a x.r.n x.r.c) := rfl
  have c6 : x.cs[6]? = some (.slice x.i.a x.i.n x.i.c) := rfl
  have c7 : x.cs[7]? = some (.slice x.o.a x.o.n x.o.c) := rfl
  have c8 : x.cs[8]? = some (.int .i64 x.st) := rfl
  unfold Md.ok
  rw [hx.ml, hx.rl, hx.il, hx.ol]
  clear hx hs X
  generalize wdB d.m = b2 at W2 ⊢
  generalize wdB d.r = b4 at W4 ⊢
  generalize wdB d.i = b6 at W6 ⊢
  generalize wdB d.o = b8 at W8 ⊢
  generalize inB x.st 0 2 = b9 at W9 ⊢
  cases h1 : ((x.m.n : Int) == 256)
  · go_enter Try.func69, Try.ntmps69
    go_wp2
    go_ret
    exact ⟨rfl, unhide HB⟩
  cases b2
  · go_enter Try.func69, Try.ntmps69
    go_wp2_with (first | (go_at_call_of 60 (Value.slice x.m.a x.m.n x.m.c); refine (unhide W2).mono ?_; rintro e w' ⟨rfl, rfl⟩))
    go_ret
    exact ⟨rfl, unhide HB⟩
  cases h3 : ((x.r.n : Int) == 8)
  · go_enter Try.func69, Try.ntmps69
    go_wp2_with (first | (go_at_call_of 60 (Value.slice x.m.a x.m.n x.m.c); refine (unhide W2).mono ?_; rintro e w' ⟨rfl, rfl⟩))
    go_ret
    exact ⟨rfl, unhide HB⟩
  cases b4
  · go_enter Try.func69, Try.ntmps69
    go_wp2_with (first | (go_at_call_of 60 (Value.slice x.m.a x.m.n x.m.c); refine (unhide W2).mono ?_; rintro e w' ⟨rfl, rfl⟩) | (go_at_call_of 60 (Value.slice x.r.a x.r.n x.r.c); refine (unhide W4).mono ?_; rintro e w' ⟨rfl, rfl⟩))
    go_ret
    exact ⟨rfl, unhide HB⟩
  cases h5 : decide ((x.i.n : Int) ≤ 50)
  · go_enter Try.func69, Try.ntmps69
    go_wp2_with (first | (go_at_call_of 60 (Value.slice x.m.a x.m.n x.m.c); refine (unhide W2).mono ?_; rintro e w' ⟨rfl, rfl⟩) | (go_at_call_of 60 (Value.slice x.r.a x.r.n x.r.c); refine (unhide W4).mono ?_; rintro e w' ⟨rfl, rfl⟩))
    go_ret
    exact ⟨rfl, unhide HB⟩
  cases b6
  · go_enter Try.func69, Try.ntmps69
    go_wp2_with (first | (go_at_call_of 60 (Value.slice x.m.a x.m.n x.m.c); refine (unhide W2).mono ?_; rintro e w' ⟨rfl, rfl⟩) | (go_at_call_of 60 (Value.slice x.r.a x.r.n x.r.c); refine (unhide W4).mono ?_; rintro e w' ⟨rfl, rfl⟩) | (go_at_call_of 60 (Value.slice x.i.a x.i.n x.i.c); refine (unhide W6).mono ?_; rintro e w' ⟨rfl, rfl⟩))
    go_ret
    exact ⟨rfl, unhide HB⟩
  cases h7 : decide ((x.o.n : Int) ≤ 50)
  · go_enter Try.func69, Try.ntmps69
    go_wp2_with (first | (go_at_call_of 60 (Value.slice x.m.a x.m.n x.m.c); refine (unhide W2).mono ?_; rintro e w' ⟨rfl, rfl⟩) | (go_at_call_of 60 (Value.slice x.r.a x.r.n x.r.c); refine (unhide W4).mono ?_; rintro e w' ⟨rfl, rfl⟩) | (go_at_call_of 60 (Value.slice x.i.a x.i.n x.i.c); refine (unhide W6).mono ?_; rintro e w' ⟨rfl, rfl⟩))
    go_ret
    exact ⟨rfl, unhide HB⟩
  cases b8
  · go_enter Try.func69, Try.ntmps69
    go_wp2_with (first | (go_at_call_of 60 (Value.slice x.m.a x.m.n x.m.c); refine (unhide W2).mono ?_; rintro e w' ⟨rfl, rfl⟩) | (go_at_call_of 60 (Value.slice x.r.a x.r.n x.r.c); refine (unhide W4).mono ?_; rintro e w' ⟨rfl, rfl⟩) | (go_at_call_of 60 (Value.slice x.i.a x.i.n x.i.c); refine (unhide W6).mono ?_; rintro e w' ⟨rfl, rfl⟩) | (go_at_call_of 60 (Value.slice x.o.a x.o.n x.o.c); refine (unhide W8).mono ?_; rintro e w' ⟨rfl, rfl⟩))
    go_ret
    exact ⟨rfl, unhide HB⟩
  cases b9
  · go_enter Try.func69, Try.ntmps69
    go_wp2_with (first | (go_at_call_of 60 (Value.slice x.m.a x.m.n x.m.c); refine (unhide W2).mono ?_; rintro e w' ⟨rfl, rfl⟩) | (go_at_call_of 60 (Value.slice x.r.a x.r.n x.r.c); refine (unhide W4).mono ?_; rintro e w' ⟨rfl, rfl⟩) | (go_at_call_of 60 (Value.slice x.i.a x.i.n x.i.c); refine (unhide W6).mono ?_; rintro e w' ⟨rfl, rfl⟩) | (go_at_call_of 60 (Value.slice x.o.a x.o.n x.o.c); refine (unhide W8).mono ?_; rintro e w' ⟨rfl, rfl⟩) | (go_at_call 59; refine (unhide W9 _).mono ?_; rintro e w' ⟨rfl, rfl⟩))
    go_ret
    exact ⟨rfl, unhide HB⟩
  go_enter Try.func69, Try.ntmps69
  go_wp2_with (first | (go_at_call_of 60 (Value.slice x.m.a x.m.n x.m.c); refine (unhide W2).mono ?_; rintro e w' ⟨rfl, rfl⟩) | (go_at_call_of 60 (Value.slice x.r.a x.r.n x.r.c); refine (unhide W4).mono ?_; rintro e w' ⟨rfl, rfl⟩) | (go_at_call_of 60 (Value.slice x.i.a x.i.n x.i.c); refine (unhide W6).mono ?_; rintro e w' ⟨rfl, rfl⟩) | (go_at_call_of 60 (Value.slice x.o.a x.o.n x.o.c); refine (unhide W8).mono ?_; rintro e w' ⟨rfl, rfl⟩) | (go_at_call 59; refine (unhide W9 _).mono ?_; rintro e w' ⟨rfl, rfl⟩))
  go_ret
  exact ⟨rfl, unhide HB⟩
end Go.Proofs.Ytfkmibgamkignaa

namespace Go.Proofs.Ytfkmibgamkignaa
open Go.ChangeShapes Go.WideShapes Go.ChangeAt Go.RowKit
set_option linter.unusedVariables false
set_option maxRecDepth 8000
set_option linter.unusedSimpArgs false

set_option maxHeartbeats 4000000 in
theorem okI_any (x : Mv) (d : Md) (w : World) (hs : x.small) (hx : RdM w x d) : Calls Try.prog 20 #[.agg x.cs] w fun e w' => e = .returned (.bool (d.ok x.st)) ∧ Below w.heap.size w w' := by
  have HB := hide ((Below.refl w.heap.size w).alloc (Nat.le_refl _) (.cells x.cs 28))
  have X := hide (hx.later (unhide HB))
  have W0 := hide (wordsI_any x.m.a x.m.n x.m.c d.m _ hx.ml (by have := hs.1; omega) (unhide X).m)
  have W1 := hide (wordsI_any x.r.a x.r.n x.r.c d.r _ hx.rl (by have := hs.2.1; omega) (unhide X).r)
  have W2 := hide (wordsI_any x.i.a x.i.n x.i.c d.i _ hx.il (by have := hs.2.2.1; omega) (unhide X).i)
  have W3 := hide (wordsI_any x.o.a x.o.n x.o.c d.o _ hx.ol (by have := hs.2.2.2; omega) (unhide X).o)
  have c0 : x.cs[0]? = some (.slice x.m.a x.m.n x.m.c) := rfl
  have c1 : x.cs[1]? = some (.slice x.r.a x.r.n x.r.c) := rfl
  have c6 : x.cs[6]? = some (.slice x.i.a x.i.n x.i.c) := rfl
  have c7 : x.cs[7]? = some (.slice x.o.a x.o.n x.o.c) := rfl
  have c8 : x.cs[8]? = some (.int .i64 x.st) := rfl
  unfold Md.ok
  rw [hx.ml, hx.rl, hx.il, hx.ol]
  clear hx hs X
  generalize wdB d.m = b0 at W0 ⊢
  generalize wdB d.r = b1 at W1 ⊢
  generalize wdB d.i = b2 at W2 ⊢
  generalize wdB d.o = b3 at W3 ⊢
  by_cases h1 : (x.m.n : Int) = 256
  rotate_left
  · rw [show ((x.m.n : Int) == 256) = false by simpa using h1]
    go_enter Try.func20, Try.ntmps20
    go_wp2
    go_ret
    exact ⟨ret_bool (by simp), unhide HB⟩
  rw [show ((x.m.n : Int) == 256) = true by simpa using h1]
  have g1 : 256 ≤ x.m.n ∧ x.m.n ≤ 256 := by omega
  obtain ⟨g1a, g1b⟩ := g1
  clear h1
  by_cases h2 : (x.r.n : Int) = 8
  rotate_left
  · rw [show ((x.r.n : Int) == 8) = false by simpa using h2]
    go_enter Try.func20, Try.ntmps20
    go_wp2
    go_ret
    exact ⟨ret_bool (by simp), unhide HB⟩
  rw [show ((x.r.n : Int) == 8) = true by simpa using h2]
  have g2 : 8 ≤ x.r.n ∧ x.r.n ≤ 8 := by omega
  obtain ⟨g2a, g2b⟩ := g2
  clear h2
  by_cases h3 : (x.i.n : Int) ≤ 50
  rotate_left
  · rw [decide_eq_false h3]
    go_enter Try.func20, Try.ntmps20
    go_wp2
    go_ret
    exact ⟨ret_bool (by simp), unhide HB⟩
  rw [decide_eq_true h3]
  by_cases h4 : (x.o.n : Int) ≤ 50
  rotate_left
  · rw [decide_eq_false h4]
    go_enter Try.func20, Try.ntmps20
    go_wp2
    go_ret
    exact ⟨ret_bool (by simp), unhide HB⟩
  rw [decide_eq_true h4]
  obtain ⟨B, hB⟩ : ∃ B : Nat → Bool, B = fun j => if j = 0 then b0 else if j = 1 then b1 else if j = 2 then b2 else b3 := ⟨_, rfl⟩
  have HBB := hide hB
  clear hB
  have ix0 : ∀ w, (Instr.index 88 (.agg #[Value.slice x.m.a x.m.n x.m.c, Value.slice x.r.a x.r.n x.r.c, Value.slice x.i.a x.i.n x.i.c, Value.slice x.o.a x.o.n x.o.c]) (.int .i64 0)).run Try.prog w = .ok (.slice x.m.a x.m.n x.m.c) w := fun w => by kernel_rfl
  have ix1 : ∀ w, (Instr.index 88 (.agg #[Value.slice x.m.a x.m.n x.m.c, Value.slice x.r.a x.r.n x.r.c, Value.slice x.i.a x.i.n x.i.c, Value.slice x.o.a x.o.n x.o.c]) (.int .i64 1)).run Try.prog w = .ok (.slice x.r.a x.r.n x.r.c) w := fun w => by kernel_rfl
  have ix2 : ∀ w, (Instr.index 88 (.agg #[Value.slice x.m.a x.m.n x.m.c, Value.slice x.r.a x.r.n x.r.c, Value.slice x.i.a x.i.n x.i.c, Value.slice x.o.a x.o.n x.o.c]) (.int .i64 2)).run Try.prog w = .ok (.slice x.i.a x.i.n x.i.c) w := fun w => by kernel_rfl
  have ix3 : ∀ w, (Instr.index 88 (.agg #[Value.slice x.m.a x.m.n x.m.c, Value.slice x.r.a x.r.n x.r.c, Value.slice x.i.a x.i.n x.i.c, Value.slice x.o.a x.o.n x.o.c]) (.int .i64 3)).run Try.prog w = .ok (.slice x.o.a x.o.n x.o.c) w := fun w => by kernel_rfl
  go_enter Try.func20, Try.ntmps20
  go_wp2
  go_loop [4, 36] (fun _ i => ∃ k : Nat, k ≤ 4 ∧ i = .int .i64 k ∧ ∀ j, j < k → B j = true) (fun _ i => 4 - (intOf i).toNat)
  case atStart => exact ⟨0, by omega, rfl, fun j h => by omega⟩
  case round =>
    obtain ⟨k, hk, rfl, hall⟩ := hrel
    by_cases hlt : k < 4
    · have HA := hide hall
      clear hall
      obtain rfl | rfl | rfl | rfl : k = 0 ∨ k = 1 ∨ k = 2 ∨ k = 3 := by omega
      · have hBk : Hid (B 0 = b0) := by rw [show B = _ from unhide HBB]; rfl
        cases b0
        · go_wp2_with (go_at_call 50; refine (unhide W0).mono ?_; rintro e w' ⟨rfl, rfl⟩)
          go_ret
          exact ⟨ret_bool (by simp), unhide HB⟩
        · go_wp2_with (go_at_call 50; refine (unhide W0).mono ?_; rintro e w' ⟨rfl, rfl⟩)
          go_round
          case rel => exact ⟨1, by omega, by go_num, fun j hj => by
            by_cases e : j = 0
            · rw [e]; exact unhide hBk
            · exact unhide HA j (by omega)⟩
          case measure => simp [intOf]
      · have hBk : Hid (B 1 = b1) := by rw [show B = _ from unhide HBB]; rfl
        cases b1
        · go_wp2_with (go_at_call 50; refine (unhide W1).mono ?_; rintro e w' ⟨rfl, rfl⟩)
          go_ret
          exact ⟨ret_bool (by simp), unhide HB⟩
        · go_wp2_with (go_at_call 50; refine (unhide W1).mono ?_; rintro e w' ⟨rfl, rfl⟩)
          go_round
          case rel => exact ⟨2, by omega, by go_num, fun j hj => by
            by_cases e : j = 1
            · rw [e]; exact unhide hBk
            · exact unhide HA j (by omega)⟩
          case measure => simp [intOf]
      · have hBk : Hid (B 2 = b2) := by rw [show B = _ from unhide HBB]; rfl
        cases b2
        · go_wp2_with (go_at_call 50; refine (unhide W2).mono ?_; rintro e w' ⟨rfl, rfl⟩)
          go_ret
          exact ⟨ret_bool (by simp), unhide HB⟩
        · go_wp2_with (go_at_call 50; refine (unhide W2).mono ?_; rintro e w' ⟨rfl, rfl⟩)
          go_round
          case rel => exact ⟨3, by omega, by go_num, fun j hj => by
            by_cases e : j = 2
            · rw [e]; exact unhide hBk
            · exact unhide HA j (by omega)⟩
          case measure => simp [intOf]
      · have hBk : Hid (B 3 = b3) := by rw [show B = _ from unhide HBB]; rfl
        cases b3
        · go_wp2_with (go_at_call 50; refine (unhide W3).mono ?_; rintro e w' ⟨rfl, rfl⟩)
          go_ret
          exact ⟨ret_bool (by simp), unhide HB⟩
        · go_wp2_with (go_at_call 50; refine (unhide W3).mono ?_; rintro e w' ⟨rfl, rfl⟩)
          go_round
          case rel => exact ⟨4, by omega, by go_num, fun j hj => by
            by_cases e : j = 3
            · rw [e]; exact unhide hBk
            · exact unhide HA j (by omega)⟩
          case measure => simp [intOf]
    · obtain rfl : k = 4 := by omega
      have e := unhide HBB
      have a0 := hall 0 (by omega)
      have a1 := hall 1 (by omega)
      have a2 := hall 2 (by omega)
      have a3 := hall 3 (by omega)
      rw [show B = _ from e] at a0 a1 a2 a3
      simp only [↓reduceIte, Nat.reduceEqDiff, Nat.one_ne_zero] at a0 a1 a2 a3
      subst a0 a1 a2 a3
      clear e hall HBB
      by_cases s0 : x.st = 0
      · have e0 : (x.st == 0) = true := by simpa using s0
        have F : inB x.st 0 2 = true := by unfold inB; simp; omega
        have HF := hide F
        clear F s0
        go_wp2
        go_ret
        exact ⟨ret_bool (by simp [unhide HF]), unhide HB⟩
      have e0 : (x.st == 0) = false := by simpa using s0
      by_cases s1 : x.st = 1
      · have e1 : (x.st == 1) = true := by simpa using s1
        have F : inB x.st 0 2 = true := by unfold inB; simp; omega
        have HF := hide F
        clear F s0 s1
        go_wp2
        go_ret
        exact ⟨ret_bool (by simp [unhide HF]), unhide HB⟩
      have e1 : (x.st == 1) = false := by simpa using s1
      have F : inB x.st 0 2 = (x.st == 2) := by unfold inB; rw [Bool.eq_iff_iff]; simp; omega
      cases e2 : (x.st == 2)
      all_goals rw [e2] at F
      all_goals have HF := hide F
      all_goals clear F s0 s1
      · go_wp2
        go_ret
        exact ⟨ret_bool (by simp [unhide HF]), unhide HB⟩
      · go_wp2
        go_ret
        exact ⟨ret_bool (by simp [unhide HF]), unhide HB⟩
end Go.Proofs.Ytfkmibgamkignaa

namespace Go.Proofs.Ytfkmibgamkignaa
open Go.ChangeShapes Go.WideShapes Go.ChangeAt Go.RowKit
set_option linter.unusedVariables false
set_option maxRecDepth 8000
set_option linter.unusedSimpArgs false

theorem small_of {w w' : World} {x y : Mv} {d : Md} (hx : RdM w x d) (hy : RdM w' y d) (h : x.small) : y.small :=
  ⟨by have := h.1; rw [← hy.ml, hx.ml]; exact this, by have := h.2.1; rw [← hy.rl, hx.rl]; exact this, by have := h.2.2.1; rw [← hy.il, hx.il]; exact this, by have := h.2.2.2; rw [← hy.ol, hx.ol]; exact this⟩
/-- What came in, in its box, while the law goes on. -/
structure Lw (W wr : World) (x : Mv) (e : Md) : Prop where
  bx : wr.heap[W.heap.size]? = some (.cells x.cs 58 (0, 0))
  rd : RdM wr x e
  bel : Below W.heap.size W wr
theorem Lw.later {W wr w' : World} {x : Mv} {e : Md} (h : Lw W wr x e) (hb : Below wr.heap.size wr w') : Lw W w' x e :=
  ⟨row_lat h.bx hb, h.rd.later hb, h.bel.trans (hb.mono (by have := h.bel.size; omega))⟩
theorem Lw.lt {W wr : World} {x : Mv} {e : Md} (h : Lw W wr x e) : W.heap.size < wr.heap.size := row_lt h.bx
theorem lw_new {W : World} {x : Mv} {e : Md} (h : RdM W x e) : Lw W (W.alloc (.cells x.cs 58)) x e :=
  ⟨heap_alloc_last W _, h.later ((Below.refl _ _).alloc (Nat.le_refl _) _), (Below.refl _ _).alloc (Nat.le_refl _) _⟩
theorem below_new (w : World) (o : Obj) : Below w.heap.size w (w.alloc o) := (Below.refl _ _).alloc (Nat.le_refl _) _
theorem below_drew {w : World} : Below w.heap.size w w.drew := ⟨rfl, rfl, rfl, Nat.le_refl _, fun _ _ => rfl⟩

theorem wpList_store_new {P : Program} {ops : Array Oper} {rest : List Oper} {o : Oper} {a : Act} {w : World} {Q : Exit → Act → World → Prop} (hgd : o.guard = none) (ty : TypeId) (x y : Operand) (ho : o.op = .store ty x y)
    (cells : Array Value) (hx : a.eval x = .pointer (some ⟨w.heap.size, 0, none⟩)) (hy : a.eval y = .agg cells) (old : Array Value) (hi : (P.info? ty).map (·.size) = some cells.size)
    (hold : old.size = cells.size) (h1 : cells.all (·.oneCell') = true) (h : wpList P ops Q rest (a.put o.dst undef) (w.alloc (.cells cells ty))) : wpList P ops Q (o :: rest) a (w.alloc (.cells old ty)) :=
  wpList_store_row hgd ty x y ho w.heap.size cells hx hy ty old (heap_alloc_last w _) hi hold h1 (by rw [World.setRow_alloc_new]; exact h)

/-- A load of a whole row yields it in every world that keeps the row. -/
theorem yields_load {P : Program} {ops : Array Oper} {S : World → Prop} {o : Oper} {a : Act} (hgd : o.guard = none) (ty : TypeId) (x : Operand) (ho : o.op = .load ty x) (g : Nat) (hx : a.eval x = .pointer (some ⟨g, 0, none⟩)) (t : TypeId) (cs : Array Value) (d : TypeDesc)
    (hS : ∀ w, S w → w.heap[g]? = some (.cells cs t (0, 0))) (hu : P.underlying ty = some d) (hd : (match d with | .struct _ | .array _ _ => true | _ => false) = true) (hi : (P.info? ty).map (·.size) = some cs.size) : YieldsIf P ops S o (.agg cs) a := by
  refine .inl ⟨by simp [Region.wanted, hgd], fun w hw => ?_⟩
  simp only [execOp, ho, hx, Instr.loadAt, Instr.sureAddr, Sem.run_bind, Sem.run_pure, Result.andThen_ok, run_loadVar_row w g t ty cs (0, 0) d (hS w hw) hu hd hi]
end Go.Proofs.Ytfkmibgamkignaa

namespace Go.Proofs.Ytfkmibgamkignaa
open Go.ChangeShapes Go.WideShapes Go.ChangeAt Go.RowKit
set_option linter.unusedVariables false
set_option maxRecDepth 8000
set_option linter.unusedSimpArgs false

theorem info_parts {P : Program} {t : TypeId} {z : Option Value} {s b : Nat} (h : (P.info? t).map (fun i => (i.zero, i.size, i.bytes)) = some (z, s, b)) : ∃ i, P.info? t = some i ∧ i.zero = z ∧ i.size = s ∧ i.bytes = b := by
  cases hq : P.info? t with
  | none => simp [hq] at h
  | some i => simp [hq] at h; exact ⟨i, rfl, h⟩
/-- No address, no room. -/
def Sl.nz (s : Sl) : Prop := s.a = none → s.c = 0
def Mv.nz (x : Mv) : Prop := x.m.nz ∧ x.r.nz ∧ x.i.nz ∧ x.o.nz
theorem OwnN.nz {w : World} {B : Nat} {s : Sl} {ns : List Int} (h : OwnN w B s.v ns) : s.nz := by
  obtain ⟨a, c, e, _, _, _, _, h0⟩ := h.rd
  obtain ⟨sa, sn, sc⟩ := s
  unfold Sl.v at e
  simp at e
  obtain ⟨rfl, _, rfl⟩ := e
  exact h0
theorem OwnM.nz {w : World} {B : Nat} {x : Mv} {d : Md} (h : OwnM w B x d) : x.nz := ⟨h.m.nz, h.r.nz, h.i.nz, h.o.nz⟩
theorem rdN_cells {w : World} {ad : Addr} {ns : List Int} (h : RdN w (some ad) ns) : ∀ j u, (cellsN ns)[j]? = some u → w.cell? (ad.add j) = some u := by
  intro j u hu
  simp only [cellsN, List.getElem?_map, Option.map_eq_some_iff] at hu
  obtain ⟨y, hy, rfl⟩ := hu
  have hj := (List.getElem?_eq_some_iff.1 hy).1
  rcases h with rfl | ⟨b, off, ha, hb, hc⟩
  · simp at hj
  · cases ha
    have := hc j hj
    have e : nAt ns j = y := by unfold nAt; rw [List.getD_eq_getElem?_getD, hy]; rfl
    rw [e] at this
    unfold Addr.add
    by_cases h0 : j = 0
    · subst h0; simpa using this
    · simpa [h0] using this
/-- 'append(v, s...)', v owned, s whatever is read: as one law for the walk. -/
theorem wpList_app {w : World} {ops : Array Oper} {rest : List Oper} {o : Oper} {a : Act} {Q : Exit → Act → World → Prop} (hgd : o.guard = none) (p q : Operand) (ho : o.op = .call { callee := .builtin .append, args := #[p, q], argTypes := #[24, 24] })
    (B : Nat) (v : Value) (xs : List Int) (hs : a.eval p = v) (hown : OwnN w B v xs) (s : Sl) (ns : List Int) (hx : a.eval q = .slice s.a s.n s.c) (hr : RdN w s.a ns) (hl : ns.length = s.n) (hz : s.nz) (hm : xs.length + s.n ≤ 4194304) (hB : B ≤ w.heap.size)
    (h : ∀ v' w', OwnN w' B v' (xs ++ ns) → w.grownBy w' v.ownBlock → wpList Try.prog ops Q rest (a.put o.dst v') w') : wpList Try.prog ops Q (o :: rest) a w := by
  obtain ⟨i0, hi, hz0, hz1, hz2⟩ := info_parts info3
  obtain ⟨sa, sn, sc⟩ := s
  simp only at hx hr hl hm
  cases sa with
  | none =>
    have h0 : ns = [] := by
      rcases hr with h0 | ⟨_, _, e, _⟩
      · exact h0
      · cases e
    subst h0
    have hn : sn = 0 := by simp at hl; omega
    have hc : sc = 0 := hz rfl
    subst hn hc
    refine wpList_append_own_none hgd p q 24 ho B 3 i0 1 Try.underlying24 hi v xs.length (cellsN xs) hs hown hx ?_
    exact h v w (by rw [List.append_nil]; exact hown) (World.grownBy.refl _ _)
  | some ad =>
    refine wpList_append_own _ hgd p q 24 ho B 3 i0 (.int .i64 0) 1 8 Try.underlying24 hi hz0 hz1 hz2 rfl (by decide) v xs.length (cellsN xs) hs hown ad sn sc (cellsN ns) hx (by rw [cellsN_length]; omega) (rdN_cells hr) (cellsN_one _) (by unfold maxLen; omega) (by omega) hB ?_
    intro v' w' ho' hg _
    refine h v' w' ?_ hg
    unfold OwnN
    rw [cellsN_append, List.length_append, hl]
    exact ho'
theorem below_grown {w w' : World} (hg : w.grownBy w' none) : Below w.heap.size w w' := ⟨hg.os, hg.tape, hg.output, hg.size, fun k hk => hg.block k hk (by simp)⟩

set_option maxHeartbeats 1000000 in
theorem copyN_any (s : Sl) (ns : List Int) (w : World) (hr : RdN w s.a ns) (hl : ns.length = s.n) (hz : s.nz) (hm : s.n ≤ 1048576) :
    Calls Try.prog 85 #[.slice s.a s.n s.c] w fun e w' => ∃ v, e = .returned v ∧ OwnN w' w.heap.size v ns ∧ Below w.heap.size w w' := by
  go_enter Try.func85, Try.ntmps85
  go_wp2_with (at_builtin; refine wpList_app rfl _ _ rfl w.heap.size (.slice none 0 0) [] rfl (ownN_none _ _) s ns rfl hr hl hz (by simp; omega) (Nat.le_refl _) ?_; intro v' w' ho hg; have HO := hide ho; have HG := hide hg; clear ho hg)
  go_ret
  exact ⟨_, rfl, unhide HO, below_grown (unhide HG)⟩

/-- While the program copies a machine: its box, the answer's place. -/
structure Cc (w wr : World) (x : Mv) : Prop where
  bx : wr.heap[w.heap.size]? = some (.cells x.cs 28 (0, 0))
  re : wr.heap[w.heap.size + 1]? = some (.cells zMv.cs 28 (0, 0))
  bel : Below w.heap.size w wr
  sz : w.heap.size + 2 ≤ wr.heap.size
section
variable {w wr w' : World} {x : Mv}
theorem Cc.later (h : Cc w wr x) (hb : Below wr.heap.size wr w') : Cc w w' x :=
  ⟨row_lat h.bx hb, row_lat h.re hb, h.bel.trans (hb.mono (by have := h.bel.size; omega)), Nat.le_trans h.sz hb.size⟩
theorem Cc.put (h : Cc w wr x) (j : Nat) (v : Value) (x' : Mv) (he : x.cs.setIfInBounds j v = x'.cs) : Cc w (wr.setCell ⟨w.heap.size, j, none⟩ v) x' :=
  ⟨row_put h.bx j v x' he, row_keep h.re (by omega), Below.drop h.bel (by omega), by simpa using h.sz⟩
theorem cc_new0 (w : World) (x : Mv) : Cc w ((w.alloc (.cells x.cs 28)).alloc (.cells zMv.cs 28)) x := by
  have z1 : (w.alloc (.cells x.cs 28)).heap.size = w.heap.size + 1 := by simp
  have a1 := row_lat (heap_alloc_last w (.cells x.cs 28)) (below_new _ (.cells zMv.cs 28))
  have a2 := heap_alloc_last (w.alloc (.cells x.cs 28)) (.cells zMv.cs 28)
  rw [z1] at a2
  exact ⟨a1, a2, ((Below.refl _ _).alloc (Nat.le_refl _) _).alloc (by omega) _, by simp⟩
theorem cc_new (w : World) (x : Mv) : Cc w ((w.alloc (.cells x.cs 28)).alloc (.cells #[Value.slice none 0 0, Value.slice none 0 0, Value.bool false, Value.bool false, Value.bool false, Value.bool false, Value.slice none 0 0, Value.slice none 0 0, Value.int .i64 0] 28)) x := cc_new0 w x
theorem Cc.done {x : Mv} (h : Cc w wr x) : Cd w (wr.setRow (w.heap.size + 1) x.cs) x :=
  ⟨setRow_heap wr _ zMv.cs _ 28 _ h.re, below_setRow h.bel (by omega) _⟩
theorem RdM.setB {x : Mv} {d : Md} {b : Nat} (h : RdM wr x d) (hw : RdM w x d) (hb : w.heap.size ≤ b) (j : Nat) (v : Value) : RdM (wr.setCell ⟨b, j, none⟩ v) x d := by
  have key : ∀ {a : Option Addr} {ns : List Int}, RdN w a ns → ns = [] ∨ ∀ ad, a = some ad → ad.block ≠ b := fun hr => by
    rcases hr with h0 | ⟨b', off, rfl, hb', _⟩
    · exact .inl h0
    · exact .inr fun ad e => by cases e; show b' ≠ b; omega
  exact ⟨h.m.put (key hw.m), h.r.put (key hw.r), h.i.put (key hw.i), h.o.put (key hw.o), h.ml, h.rl, h.il, h.ol⟩
end

set_option maxHeartbeats 4000000 in
theorem copyM_any (x : Mv) (d : Md) (w : World) (hs : x.small) (hz : x.nz) (hr : RdM w x d) : Calls Try.prog 66 #[.agg x.cs] w fun e w' => ∃ y : Mv, e = .returned (.agg y.cs) ∧ y.fl = x.fl ∧ OwnM w' (w.heap.size + 2) y d ∧ Below w.heap.size w w' := by
  obtain ⟨s0, s1, s2, s3⟩ := hs
  have NZ := hide hz
  have C := hide (cc_new w x)
  have HR := hide hr
  have R := hide (hr.later (unhide C).bel)
  have q0 : x.cs[0]? = some (.slice x.m.a x.m.n x.m.c) := rfl
  have T := hide (copyN_any x.m d.m _ (unhide R).m hr.ml hz.1 s0)
  clear hr hz
  go_enter Try.func66, Try.ntmps66
  go_wp2_with fail
  refine (unhide T).mono ?_
  rintro e w0 ⟨v, rfl, own, bel⟩
  obtain ⟨a0, n0, c0, rfl⟩ : ∃ a n c, v = .slice a n c := by obtain ⟨a, c, e, _⟩ := own.rd; exact ⟨_, _, _, e⟩
  have Cn := hide ((unhide C).later bel)
  have Rn := hide ((unhide R).later bel)
  have O0 := hide (OwnN.base own (B' := w.heap.size + 2) (unhide C).sz)
  clear own bel T C R q0
  have o0 := row_m (unhide Cn).bx
  have f0 := row_fz (unhide Cn).bx 0
  have b1 := row_r (unhide Cn).bx
  have C := hide ((unhide Cn).put 0 (.slice a0 n0 c0) (⟨⟨a0, n0, c0⟩, x.r, x.n, x.z, x.v, x.c, x.i, x.o, x.st⟩ : Mv) rfl)
  have R := hide ((unhide Rn).setB (unhide HR) (Nat.le_refl _) 0 (.slice a0 n0 c0))
  have On := hide ((unhide O0).put (b := w.heap.size) (j := 0) (u := .slice a0 n0 c0) (by omega))
  clear O0
  have O0 := hide (unhide On)
  clear On
  have T := hide (copyN_any x.r d.r _ (unhide R).r (unhide R).rl (unhide NZ).2.1 s1)
  clear Cn Rn
  go_wp2_with fail
  refine (unhide T).mono ?_
  rintro e w1 ⟨v, rfl, own, bel⟩
  obtain ⟨a1, n1, c1, rfl⟩ : ∃ a n c, v = .slice a n c := by obtain ⟨a, c, e, _⟩ := own.rd; exact ⟨_, _, _, e⟩
  have Cn := hide ((unhide C).later bel)
  have Rn := hide ((unhide R).later bel)
  have O1 := hide (OwnN.base own (B' := w.heap.size + 2) (unhide C).sz)
  have On := hide ((unhide O0).later bel)
  have A01 : Hid (Ap ⟨a0, n0, c0⟩ ⟨a1, n1, c1⟩) := hide (ap_of (unhide O0) own (Nat.le_refl _))
  clear O0
  have O0 := hide (unhide On)
  clear On
  clear own bel T C R
  have o1 := row_r (unhide Cn).bx
  have f1 := row_fz (unhide Cn).bx 1
  have b6 := row_i (unhide Cn).bx
  have C := hide ((unhide Cn).put 1 (.slice a1 n1 c1) (⟨⟨a0, n0, c0⟩, ⟨a1, n1, c1⟩, x.n, x.z, x.v, x.c, x.i, x.o, x.st⟩ : Mv) rfl)
  have R := hide ((unhide Rn).setB (unhide HR) (Nat.le_refl _) 1 (.slice a1 n1 c1))
  have On := hide ((unhide O0).put (b := w.heap.size) (j := 1) (u := .slice a1 n1 c1) (by omega))
  clear O0
  have O0 := hide (unhide On)
  clear On
  have On := hide ((unhide O1).put (b := w.heap.size) (j := 1) (u := .slice a1 n1 c1) (by omega))
  clear O1
  have O1 := hide (unhide On)
  clear On
  have T := hide (copyN_any x.i d.i _ (unhide R).i (unhide R).il (unhide NZ).2.2.1 s2)
  clear Cn Rn
  go_wp2_with fail
  refine (unhide T).mono ?_
  rintro e w2 ⟨v, rfl, own, bel⟩
  obtain ⟨a2, n2, c2, rfl⟩ : ∃ a n c, v = .slice a n c := by obtain ⟨a, c, e, _⟩ := own.rd; exact ⟨_, _, _, e⟩
  have Cn := hide ((unhide C).later bel)
  have Rn := hide ((unhide R).later bel)
  have O2 := hide (OwnN.base own (B' := w.heap.size + 2) (unhide C).sz)
  have On := hide ((unhide O0).later bel)
  have A02 : Hid (Ap ⟨a0, n0, c0⟩ ⟨a2, n2, c2⟩) := hide (ap_of (unhide O0) own (Nat.le_refl _))
  clear O0
  have O0 := hide (unhide On)
  clear On
  have On := hide ((unhide O1).later bel)
  have A12 : Hid (Ap ⟨a1, n1, c1⟩ ⟨a2, n2, c2⟩) := hide (ap_of (unhide O1) own (Nat.le_refl _))
  clear O1
  have O1 := hide (unhide On)
  clear On
  clear own bel T C R
  have o6 := row_i (unhide Cn).bx
  have f6 := row_fz (unhide Cn).bx 6
  have b7 := row_o (unhide Cn).bx
  have C := hide ((unhide Cn).put 6 (.slice a2 n2 c2) (⟨⟨a0, n0, c0⟩, ⟨a1, n1, c1⟩, x.n, x.z, x.v, x.c, ⟨a2, n2, c2⟩, x.o, x.st⟩ : Mv) rfl)
  have R := hide ((unhide Rn).setB (unhide HR) (Nat.le_refl _) 6 (.slice a2 n2 c2))
  have On := hide ((unhide O0).put (b := w.heap.size) (j := 6) (u := .slice a2 n2 c2) (by omega))
  clear O0
  have O0 := hide (unhide On)
  clear On
  have On := hide ((unhide O1).put (b := w.heap.size) (j := 6) (u := .slice a2 n2 c2) (by omega))
  clear O1
  have O1 := hide (unhide On)
  clear On
  have On := hide ((unhide O2).put (b := w.heap.size) (j := 6) (u := .slice a2 n2 c2) (by omega))
  clear O2
  have O2 := hide (unhide On)
  clear On
  have T := hide (copyN_any x.o d.o _ (unhide R).o (unhide R).ol (unhide NZ).2.2.2 s3)
  clear Cn Rn
  go_wp2_with fail
  refine (unhide T).mono ?_
  rintro e w3 ⟨v, rfl, own, bel⟩
  obtain ⟨a3, n3, c3, rfl⟩ : ∃ a n c, v = .slice a n c := by obtain ⟨a, c, e, _⟩ := own.rd; exact ⟨_, _, _, e⟩
  have Cn := hide ((unhide C).later bel)
  have Rn := hide ((unhide R).later bel)
  have O3 := hide (OwnN.base own (B' := w.heap.size + 2) (unhide C).sz)
  have On := hide ((unhide O0).later bel)
  have A03 : Hid (Ap ⟨a0, n0, c0⟩ ⟨a3, n3, c3⟩) := hide (ap_of (unhide O0) own (Nat.le_refl _))
  clear O0
  have O0 := hide (unhide On)
  clear On
  have On := hide ((unhide O1).later bel)
  have A13 : Hid (Ap ⟨a1, n1, c1⟩ ⟨a3, n3, c3⟩) := hide (ap_of (unhide O1) own (Nat.le_refl _))
  clear O1
  have O1 := hide (unhide On)
  clear On
  have On := hide ((unhide O2).later bel)
  have A23 : Hid (Ap ⟨a2, n2, c2⟩ ⟨a3, n3, c3⟩) := hide (ap_of (unhide O2) own (Nat.le_refl _))
  clear O2
  have O2 := hide (unhide On)
  clear On
  clear own bel T C R
  have o7 := row_o (unhide Cn).bx
  have f7 := row_fz (unhide Cn).bx 7
  have C := hide ((unhide Cn).put 7 (.slice a3 n3 c3) (⟨⟨a0, n0, c0⟩, ⟨a1, n1, c1⟩, x.n, x.z, x.v, x.c, ⟨a2, n2, c2⟩, ⟨a3, n3, c3⟩, x.st⟩ : Mv) rfl)
  have On := hide ((unhide O0).put (b := w.heap.size) (j := 7) (u := .slice a3 n3 c3) (by omega))
  clear O0
  have O0 := hide (unhide On)
  clear On
  have On := hide ((unhide O1).put (b := w.heap.size) (j := 7) (u := .slice a3 n3 c3) (by omega))
  clear O1
  have O1 := hide (unhide On)
  clear On
  have On := hide ((unhide O2).put (b := w.heap.size) (j := 7) (u := .slice a3 n3 c3) (by omega))
  clear O2
  have O2 := hide (unhide On)
  clear On
  have On := hide ((unhide O3).put (b := w.heap.size) (j := 7) (u := .slice a3 n3 c3) (by omega))
  clear O3
  have O3 := hide (unhide On)
  clear On
  clear Cn Rn
  go_wp2_with (first | (refine wpList_load_row rfl 28 _ rfl w.heap.size rfl 28 (Mv.cs (⟨⟨a0, n0, c0⟩, ⟨a1, n1, c1⟩, x.n, x.z, x.v, x.c, ⟨a2, n2, c2⟩, ⟨a3, n3, c3⟩, x.st⟩ : Mv)) (0, 0) _ (unhide C).bx Try.underlying28 rfl (by kernel_rfl) ?_) | (refine wpList_store_row rfl 28 _ _ rfl (w.heap.size + 1) (Mv.cs (⟨⟨a0, n0, c0⟩, ⟨a1, n1, c1⟩, x.n, x.z, x.v, x.c, ⟨a2, n2, c2⟩, ⟨a3, n3, c3⟩, x.st⟩ : Mv)) rfl rfl 28 zMv.cs (unhide C).re (by kernel_rfl) rfl (Mv.cs_one _) ?_))
  refine bodyPost_ret (results_cell_row (P := Try.prog) rfl _ _ (w.heap.size + 1) 28 (Mv.cs (⟨⟨a0, n0, c0⟩, ⟨a1, n1, c1⟩, x.n, x.z, x.v, x.c, ⟨a2, n2, c2⟩, ⟨a3, n3, c3⟩, x.st⟩ : Mv)) (0, 0) _ rfl (unhide C).done.re Try.underlying28 rfl (by kernel_rfl)) rfl ?_
  exact ⟨(⟨⟨a0, n0, c0⟩, ⟨a1, n1, c1⟩, x.n, x.z, x.v, x.c, ⟨a2, n2, c2⟩, ⟨a3, n3, c3⟩, x.st⟩ : Mv), rfl, rfl, ⟨(unhide O0).row (by omega) _, (unhide O1).row (by omega) _, (unhide O2).row (by omega) _, (unhide O3).row (by omega) _, unhide A01, unhide A02, unhide A03, unhide A12, unhide A13, unhide A23⟩, (unhide C).done.bel⟩
end Go.Proofs.Ytfkmibgamkignaa

namespace Go.Proofs.Ytfkmibgamkignaa
open Go.ChangeShapes Go.WideShapes Go.ChangeAt Go.RowKit
set_option linter.unusedVariables false
set_option maxRecDepth 8000
set_option linter.unusedSimpArgs false

def z256 : List Int := List.replicate 256 0
theorem z256_len : z256.length = 256 := List.length_replicate ..
/-- The cells of a memory and a machine. -/
def bigA (mem : List Int) (y : Mv) : Array Value := (cellsN mem ++ y.cs.toList).toArray
theorem info60 : (Try.prog.info? 80).map (fun i => (i.zero, i.size)) = some (some (.agg (bigA z256 zMv)), 265) := by kernel_rfl
theorem built60 (y : Mv) : Try.prog.built 80 [(1, .agg y.cs)] = some (bigA z256 y) := by kernel_rfl
theorem bigA_size {mem : List Int} (y : Mv) (h : mem.length = 256) : (bigA mem y).size = 265 := by
  simp [bigA, cellsN_length, h, Mv.cs]
theorem bigA_one (mem : List Int) (y : Mv) : (bigA mem y).all (·.oneCell') = true := by
  rw [Array.all_eq_true_iff_forall_mem]
  intro v hv
  simp only [bigA, List.mem_toArray, List.mem_append] at hv
  rcases hv with hv | hv
  · exact cellsN_one _ v hv
  · exact Array.all_eq_true_iff_forall_mem.1 (Mv.cs_one y) v (by simpa using hv)
theorem bigA_mem {mem : List Int} (y : Mv) {j : Nat} (h : mem.length = 256) (hj : j < 256) : (bigA mem y)[j]? = some (.int .i64 (nAt mem j)) := by
  simp only [bigA, List.getElem?_toArray]
  rw [List.getElem?_append_left (by rw [cellsN_length]; omega)]
  simp [cellsN, nAt, List.getElem?_eq_getElem (show j < mem.length by omega)]
theorem bigA_mach {mem : List Int} (y : Mv) {k : Nat} (h : mem.length = 256) : (bigA mem y)[256 + k]? = y.cs[k]? := by
  simp only [bigA, List.getElem?_toArray]
  rw [List.getElem?_append_right (by rw [cellsN_length]; omega), cellsN_length, h]
  simp
theorem wpList_alloc60 {w : World} {ops : Array Oper} {rest : List Oper} {o : Oper} {a : Act} {Q : Exit → Act → World → Prop} (hgd : o.guard = none) (ho : o.op = .alloc 80)
    (h : wpList Try.prog ops Q rest (a.put o.dst (.pointer (some ⟨w.heap.size, 0, none⟩))) (w.alloc (.cells (bigA z256 zMv) 80))) : wpList Try.prog ops Q (o :: rest) a w := by
  have hz := (zero_of_info info60).1
  refine wpList_plain hgd fun K hK => ?_
  unfold Oper.wp execOp
  simp only [ho, Instr.alloc, hz, Sem.run_bind, Sem.run_pure, Result.andThen_ok]
  simp [go_sem]
  exact hK _ _ h

theorem wpList_build60 {w : World} {ops : Array Oper} {rest : List Oper} {o : Oper} {a : Act} {Q : Exit → Act → World → Prop} (hgd : o.guard = none) (x : Operand) (ho : o.op = .build 80 #[(1, x)]) (y : Mv) (hx : a.eval x = .agg y.cs)
    (h : wpList Try.prog ops Q rest (a.put o.dst (.agg (bigA z256 y))) w) : wpList Try.prog ops Q (o :: rest) a w := by
  refine wpList_buildTo hgd 80 _ ho _ rfl (bigA z256 y) ?_ h
  simp only [List.map_toArray, List.map_cons, List.map_nil, hx]
  exact built60 y
theorem size60 (y : Mv) (mem : List Int) (h : mem.length = 256) : (Try.prog.info? 80).map (·.size) = some (bigA mem y).size := by
  rw [bigA_size y h]
  kernel_rfl
/-- A memory and a machine stored whole into the row made last. -/
theorem wpList_store60 {w : World} {ops : Array Oper} {rest : List Oper} {o : Oper} {a : Act} {Q : Exit → Act → World → Prop} (hgd : o.guard = none) (x z : Operand) (ho : o.op = .store 80 x z) (mem : List Int) (y : Mv) (hm : mem.length = 256)
    (hx : a.eval x = .pointer (some ⟨w.heap.size, 0, none⟩)) (hy : a.eval z = .agg (bigA mem y)) (h : wpList Try.prog ops Q rest (a.put o.dst undef) (w.alloc (.cells (bigA mem y) 80))) : wpList Try.prog ops Q (o :: rest) a (w.alloc (.cells (bigA z256 zMv) 80)) :=
  wpList_store_new hgd 80 x z ho (bigA mem y) hx hy _ (size60 y mem hm) (by rw [bigA_size y hm, bigA_size zMv z256_len]) (bigA_one _ _) h

/-- A memory and a machine loaded whole. -/
theorem wpList_load60 {w : World} {ops : Array Oper} {rest : List Oper} {o : Oper} {a : Act} {Q : Exit → Act → World → Prop} (hgd : o.guard = none) (x : Operand) (ho : o.op = .load 80 x) (g : Nat) (mem : List Int) (y : Mv) (hm : mem.length = 256)
    (hx : a.eval x = .pointer (some ⟨g, 0, none⟩)) (hg : w.heap[g]? = some (.cells (bigA mem y) 80 (0, 0))) (h : wpList Try.prog ops Q rest (a.put o.dst (.agg (bigA mem y))) w) : wpList Try.prog ops Q (o :: rest) a w :=
  wpList_load_row hgd 80 x ho g hx 80 (bigA mem y) (0, 0) _ hg Try.underlying80 rfl (size60 y mem hm) h
/-- A memory and a machine stored whole into a row that holds one. -/
theorem wpList_over60 {w : World} {ops : Array Oper} {rest : List Oper} {o : Oper} {a : Act} {Q : Exit → Act → World → Prop} (hgd : o.guard = none) (x z : Operand) (ho : o.op = .store 80 x z) (g : Nat) (mem mem0 : List Int) (y y0 : Mv) (hm : mem.length = 256) (hm0 : mem0.length = 256)
    (hx : a.eval x = .pointer (some ⟨g, 0, none⟩)) (hy : a.eval z = .agg (bigA mem y)) (hg : w.heap[g]? = some (.cells (bigA mem0 y0) 80 (0, 0))) (h : wpList Try.prog ops Q rest (a.put o.dst undef) (w.setRow g (bigA mem y))) : wpList Try.prog ops Q (o :: rest) a w :=
  wpList_store_row hgd 80 x z ho g (bigA mem y) hx hy 80 (bigA mem0 y0) hg (size60 y mem hm) (by rw [bigA_size y hm, bigA_size y0 hm0]) (bigA_one _ _) h

theorem grownBy_setRow {w : World} {g : Nat} (cs : Array Value) : w.grownBy (w.setRow g cs) (some g) :=
  ⟨rfl, rfl, rfl, by simp [World.setRow], fun k _ hk => setRow_other w g k cs (fun e => hk (by rw [e]))⟩
theorem info3s : (Try.prog.info? 3).map (·.size) = some 1 := by kernel_rfl
/-- What a copy leaves: the first of the list over the memory. -/
def laidM (ns mem : List Int) : List Int := ns.take 256 ++ mem.drop ns.length
theorem laidM_len {ns mem : List Int} (h : mem.length = 256) : (laidM ns mem).length = 256 := by
  unfold laidM
  rw [List.length_append, List.length_take, List.length_drop, h]
  omega
theorem copy_in (s : Sl) (ns mem : List Int) (y : Mv) (g : Nat) (w : World) (hg : w.heap[g]? = some (.cells (bigA mem y) 80 (0, 0))) (hmem : mem.length = 256) (hr : RdN w s.a ns) (hl : ns.length = s.n) :
    ∃ (w' : World) (k : Int), (∀ ty, (Builtin.copy_ #[24, 24] ty #[.slice (some ⟨g, 0, none⟩) 256 256, .slice s.a s.n s.c]).run Try.prog w = .ok (.int .i64 k) w') ∧ w'.heap[g]? = some (.cells (bigA (laidM ns mem) y) 80 (0, 0)) ∧ w.grownBy w' (some g) := by
  by_cases h0 : ns = []
  · subst h0
    have hn : s.n = 0 := by simpa using hl.symm
    refine ⟨w, 0, fun ty => ?_, by simpa [laidM] using hg, World.grownBy.refl _ _⟩
    have := run_copy_none (P := Try.prog) w 24 24 ty 3 (some ⟨g, 0, none⟩) s.a 256 256 s.n s.c Try.underlying24 info3s (by rw [hn]; rfl)
    simpa [goInt] using this
  · rcases hr with h1 | ⟨b, off, ha, hb, hc⟩
    · exact absurd h1 h0
    have hrd : RdN w (some ⟨b, off, none⟩) (ns.take 256) := .inr ⟨b, off, rfl, hb, fun i hi => by
      have hi' : i < ns.length ∧ i < 256 := by simp at hi; omega
      rw [hc i hi'.1]
      congr 2
      unfold nAt
      rw [List.getD_eq_getElem?_getD, List.getD_eq_getElem?_getD, List.getElem?_take, if_pos hi'.2]⟩
    refine ⟨_, _, fun ty => by rw [ha]; exact run_copy_row (P := Try.prog) w 24 24 ty 3 g 0 256 256 ⟨b, off, none⟩ s.n s.c (bigA mem y) 80 (cellsN (ns.take 256)) Try.underlying24 info3s hg (by rw [cellsN_length, List.length_take, hl, Nat.min_comm]) (rdN_cells hrd) (by rw [cellsN_length, List.length_take, bigA_size y hmem]; omega) (cellsN_one _), ?_, grownBy_setRow _⟩
    rw [setRow_heap w g _ _ 80 _ hg]
    congr 2
    unfold bigA laidM
    congr 1
    rw [List.take_zero, List.nil_append, Nat.zero_add, cellsN_length, cellsN_append, List.append_assoc]
    congr 1
    rw [List.toList_toArray, List.drop_append]
    have e1 : (cellsN mem).drop (ns.take 256).length = cellsN (mem.drop ns.length) := by
      unfold cellsN
      rw [← List.map_drop]
      congr 1
      rw [List.length_take]
      by_cases h : ns.length ≤ 256
      · rw [Nat.min_eq_right h]
      · rw [List.drop_eq_nil_of_le (by omega), List.drop_eq_nil_of_le (by omega)]
    rw [e1, cellsN_length, show (ns.take 256).length - mem.length = 0 by rw [List.length_take]; omega]
    rfl
theorem copy_out (s : Sl) (ns mem : List Int) (y : Mv) (g B : Nat) (w : World) (hg : w.heap[g]? = some (.cells (bigA mem y) 80 (0, 0))) (hmem : mem.length = 256) (ho : OwnN w B s.v ns) :
    ∃ (w' : World) (k : Int), (∀ ty, (Builtin.copy_ #[24, 24] ty #[.slice s.a s.n s.c, .slice (some ⟨g, 0, none⟩) 256 256]).run Try.prog w = .ok (.int .i64 k) w') ∧ OwnN w' B s.v (mem.take ns.length ++ ns.drop 256) ∧ w.grownBy w' s.v.ownBlock := by
  have hlen := ho.len
  obtain ⟨h1, ⟨h2, h3⟩ | ⟨gm, cap, cur, e, hB, hh, hn, hm, hs, ht⟩⟩ := id ho
  · obtain rfl : ns = [] := List.eq_nil_of_length_eq_zero h3
    have hn : s.n = 0 := by simpa using hlen.symm
    refine ⟨w, 0, fun ty => ?_, by simpa using ho, World.grownBy.refl _ _⟩
    have := run_copy_none (P := Try.prog) w 24 24 ty 3 s.a (some ⟨g, 0, none⟩) s.n s.c 256 256 Try.underlying24 info3s (by rw [hn]; rfl)
    simpa [goInt] using this
  · obtain ⟨sa, sn, sc⟩ := s
    unfold Sl.v at e
    simp at e
    obtain ⟨rfl, hsn, rfl⟩ := e
    simp only at hlen
    have hrd : RdN w (some ⟨g, 0, none⟩) (mem.take ns.length) := .inr ⟨g, 0, rfl, row_lt hg, fun i hi => by
      have hi' : i < ns.length ∧ i < 256 := by simp at hi; omega
      rw [cell_of_row w g _ _ 80 _ hg, Nat.zero_add, bigA_mem y hmem hi'.2]
      congr 2
      unfold nAt
      rw [List.getD_eq_getElem?_getD, List.getD_eq_getElem?_getD, List.getElem?_take, if_pos hi'.1]⟩
    have hcl : (cellsN (mem.take ns.length)).length = Nat.min 256 sn := by rw [cellsN_length, List.length_take, hmem, hlen, Nat.min_comm]
    have hmn : Nat.min 256 sn ≤ sn := Nat.min_le_right _ _
    refine ⟨_, _, fun ty => run_copy_row (P := Try.prog) w 24 24 ty 3 gm 0 sn sc ⟨g, 0, none⟩ 256 256 cur 3 (cellsN (mem.take ns.length)) Try.underlying24 info3s hh hcl (rdN_cells hrd) (by rw [hcl]; omega) (cellsN_one _), ?_, grownBy_setRow _⟩
    have hL : (mem.take ns.length ++ ns.drop 256).length = ns.length := by rw [List.length_append, List.length_take, List.length_drop, hmem]; omega
    unfold OwnN
    rw [hL]
    refine ⟨by rw [cellsN_length, hL]; omega, .inr ⟨gm, sc, _, ?_, hB, setRow_heap w gm _ _ 3 _ hh, hn, hm, ?_, ?_⟩⟩
    · unfold Sl.v; simp [hsn]
    · simp only [List.size_toArray, List.length_append, List.length_take, List.length_drop, Array.length_toList, cellsN_length, hmem]
      omega
    · rw [List.toList_toArray, List.take_zero, List.nil_append, Nat.zero_add, cellsN_length, cellsN_append, Nat.mul_one]
      have hq : (mem.take ns.length).length = min 256 ns.length := by rw [List.length_take, hmem, Nat.min_comm]
      rw [List.take_append, cellsN_length, List.take_of_length_le (by rw [cellsN_length, hq]; omega)]
      congr 1
      rw [hq, List.take_drop]
      have e2 : min 256 ns.length + (ns.length - min 256 ns.length) = ns.length * 1 := by omega
      rw [e2, ht]
      unfold cellsN
      rw [← List.map_drop]
      congr 1
      by_cases h : ns.length ≤ 256
      · rw [Nat.min_eq_right h, List.drop_eq_nil_of_le (Nat.le_refl _), List.drop_eq_nil_of_le h]
      · rw [Nat.min_eq_left (by omega)]
end Go.Proofs.Ytfkmibgamkignaa

namespace Go.Proofs.Ytfkmibgamkignaa
open Go.ChangeShapes Go.WideShapes Go.ChangeAt Go.RowKit
set_option linter.unusedVariables false
set_option maxRecDepth 8000
set_option linter.unusedSimpArgs false

/-- While a machine is made: its box, the answer's place. -/
structure Mo (w wr : World) (x : Mv) : Prop where
  bx : wr.heap[w.heap.size]? = some (.cells x.cs 28 (0, 0))
  re : wr.heap[w.heap.size + 1]? = some (.cells (bigA z256 zMv) 80 (0, 0))
  bel : Below w.heap.size w wr
  sz : w.heap.size + 2 ≤ wr.heap.size
section
variable {w wr w' : World} {x : Mv}
theorem Mo.later (h : Mo w wr x) (hb : Below wr.heap.size wr w') : Mo w w' x :=
  ⟨row_lat h.bx hb, row_lat h.re hb, h.bel.trans (hb.mono (by have := h.bel.size; omega)), Nat.le_trans h.sz hb.size⟩
theorem Mo.past {g : Nat} (h : Mo w wr x) (hg : wr.grownBy w' (some g)) (hB : w.heap.size + 2 ≤ g) : Mo w w' x :=
  ⟨(hg.block _ (row_lt h.bx) (by simp; omega)).trans h.bx, (hg.block _ (row_lt h.re) (by simp; omega)).trans h.re, h.bel.grown hg h.bel.size (fun k e => by cases e; omega), Nat.le_trans h.sz hg.size⟩
theorem mo_new (w : World) (x : Mv) : Mo w ((w.alloc (.cells x.cs 28)).alloc (.cells (bigA z256 zMv) 80)) x := by
  have z1 : (w.alloc (.cells x.cs 28)).heap.size = w.heap.size + 1 := by simp
  have a1 := row_lat (heap_alloc_last w (.cells x.cs 28)) (below_new _ (.cells (bigA z256 zMv) 80))
  have a2 := heap_alloc_last (w.alloc (.cells x.cs 28)) (.cells (bigA z256 zMv) 80)
  rw [z1] at a2
  exact ⟨a1, a2, ((Below.refl _ _).alloc (Nat.le_refl _) _).alloc (by omega) _, by simp⟩
end

theorem OwnM.row {w : World} {B g : Nat} {x : Mv} {d : Md} (h : OwnM w B x d) (hb : g < B) (cs : Array Value) : OwnM (w.setRow g cs) B x d := h.keep fun j h1 _ => setRow_other w g j cs (by omega)

set_option maxHeartbeats 1000000 in
theorem machineOf_any (x : Mv) (d : Md) (w : World) (hs : x.small) (hz : x.nz) (hr : RdM w x d) : Calls Try.prog 52 #[.agg x.cs] w fun e w' => ∃ y : Mv, e = .returned (.agg (bigA (laidM d.m z256) y)) ∧ y.fl = x.fl ∧ OwnM w' (w.heap.size + 2) y d ∧ Below w.heap.size w w' := by
  have C := hide (mo_new w x)
  have R := hide (hr.later (unhide C).bel)
  have T := hide (copyM_any x d _ hs hz (unhide R))
  have HR := hide hr
  have z1 : (w.alloc (.cells x.cs 28)).heap.size = w.heap.size + 1 := by simp
  have Z1 := hide z1
  clear hr hs hz z1
  go_enter Try.func52, Try.ntmps52
  go_wp2_with (first | (refine wpList_alloc60 rfl rfl ?_) | (refine wpList_load_row rfl 28 _ rfl w.heap.size rfl 28 x.cs (0, 0) _ (unhide C).bx Try.underlying28 rfl (by kernel_rfl) ?_))
  refine (unhide T).mono ?_
  rintro e w1 ⟨y, rfl, fy, oy, hb⟩
  have C1 := hide (((unhide C).later hb).later (below_new w1 (.cells (bigA z256 y) 80)))
  have R1 := hide (((unhide R).later hb).later (below_new w1 (.cells (bigA z256 y) 80)))
  have O1 := hide (oy.base (C := w.heap.size + 2) (by have := (unhide C).sz; omega))
  have hsz := hide (Nat.le_trans (unhide C).sz hb.size)
  have FY := hide fy
  clear C R T hb fy oy
  have hrow := hide (heap_alloc_last w1 (.cells (bigA z256 y) 80))
  obtain ⟨w2, k, hcp, hr2, hg2⟩ := copy_in x.m d.m z256 y w1.heap.size (w1.alloc (.cells (bigA z256 y) 80)).drew (unhide hrow) z256_len ((unhide R1).later below_drew).m (unhide R1).ml
  have C2 := hide (((unhide C1).later below_drew).past hg2 (unhide hsz))
  have O2 := hide ((unhide O1).keep (w' := w2) (fun g h1 h2 => (hg2.block g (Nat.lt_of_lt_of_le h2 (below_new w1 (.cells (bigA z256 y) 80)).size) (by simp; omega)).trans ((below_new w1 (.cells (bigA z256 y) 80)).block g h2)))
  have R2 := hide hr2
  clear R1 O1 hr2 hg2
  have c0 := row_m ((unhide C1).later below_drew).bx
  have CP := hide hcp
  have D0 := hide c0
  clear hcp c0
  go_wp2_with (first | (refine wpList_build60 rfl _ rfl y rfl ?_) | (refine wpList_alloc60 rfl rfl ?_) | (refine wpList_store60 rfl _ _ rfl z256 y z256_len rfl rfl ?_))
  refine wp_region_held_drew (S := fun w' => w'.cell? ⟨w.heap.size, 0, none⟩ = some (.slice x.m.a x.m.n x.m.c)) (by kernel_rfl) (unhide D0) (fun hS => ?_)
  have HS := hide hS
  clear hS
  go_simp
  refine wpAnyH_take (i := 0) (v := .pointer (some ⟨w1.heap.size, 0, none⟩)) rfl (by kernel_rfl) (by kernel_rfl) (by kernel_rfl) (fun _ _ _ h => h) (Or.inl ⟨by rfl, fun w _ => ?_⟩) (unhide HS) ?_
  · go_simp
  go_simp
  refine wpAnyH_take (i := 1) (v := .slice (some ⟨w1.heap.size, 0, none⟩) 256 256) rfl (by kernel_rfl) (by kernel_rfl) (by kernel_rfl) (fun _ _ _ h => h) (Or.inl ⟨by rfl, fun w _ => ?_⟩) (unhide HS) ?_
  · go_simp
  go_simp
  refine wpAnyH_take (i := 2) (v := .pointer (some ⟨w.heap.size, 0, none⟩)) rfl (by kernel_rfl) (by kernel_rfl) (by kernel_rfl) (fun _ _ _ h => h) (Or.inl ⟨by rfl, fun w _ => ?_⟩) (unhide HS) ?_
  · go_simp
  go_simp
  refine wpAnyH_take (i := 3) (v := .slice x.m.a x.m.n x.m.c) rfl (by kernel_rfl) (by kernel_rfl) (by kernel_rfl) (fun _ _ _ h => h) (Or.inl ⟨by rfl, fun w hc => ?_⟩) (unhide HS) ?_
  · go_simp
  go_simp
  refine wpAnyH_ready (rs := [4]) (by kernel_rfl) (by simp) ?_
  refine AllReadyH.cons rfl (fun K hK => ?_) AllReadyH.nil
  have hcp := unhide CP
  go_simp
  refine hK.out _ _ (row_m (unhide C2).bx) (fun _ => ?_)
  clear hK K hcp CP D0 HS hrow C1
  refine wpAnyH_done (by kernel_rfl) ?_ _
  go_wp2_with (first | (refine wpList_load60 rfl _ rfl w1.heap.size (laidM d.m z256) y (laidM_len z256_len) rfl (unhide R2) ?_) | (refine wpList_over60 rfl _ _ rfl (w.heap.size + 1) (laidM d.m z256) z256 y zMv (laidM_len z256_len) z256_len rfl rfl (unhide C2).re ?_))
  refine bodyPost_ret (results_cell_row (P := Try.prog) rfl _ _ (w.heap.size + 1) 80 (bigA (laidM d.m z256) y) (0, 0) _ rfl (setRow_heap w2 _ _ _ 80 _ (unhide C2).re) Try.underlying80 rfl (size60 y _ (laidM_len z256_len))) rfl ?_
  exact ⟨y, rfl, unhide FY, (unhide O2).row (by omega) _, below_setRow (unhide C2).bel (by omega) _⟩

set_option maxHeartbeats 1000000 in
theorem cell_at (g : Nat) (a : Int) (w : World) (h0 : 0 ≤ a) (h1 : a < 512) :
    Calls Try.prog 82 #[.pointer (some ⟨g, 0, none⟩), .int .i64 a] w fun e w' => e = .returned (.pointer (some ⟨g, (a / 2).toNat, none⟩)) ∧ w' = w := by
  obtain ⟨k, hk⟩ := Int.eq_ofNat_of_zero_le (show 0 ≤ a / 2 by omega)
  have hk2 : k < 256 := by omega
  rw [hk, show ((k : Int)).toNat = k by omega]
  have HK := hide hk
  go_enter Try.func82, Try.ntmps82
  go_wp2
  go_ret
  exact ⟨rfl, rfl⟩

set_option maxHeartbeats 1000000 in
theorem word_at (g : Nat) (a : Int) (mem : List Int) (y : Mv) (w : World) (h0 : 0 ≤ a) (h1 : a < 512) (hm : mem.length = 256) (hg : w.heap[g]? = some (.cells (bigA mem y) 80 (0, 0))) :
    Calls Try.prog 58 #[.pointer (some ⟨g, 0, none⟩), .int .i64 a] w fun e w' => e = .returned (.int .i64 (nAt mem (a / 2).toNat)) ∧ w' = w := by
  obtain ⟨k, hk⟩ := Int.eq_ofNat_of_zero_le (show 0 ≤ a / 2 by omega)
  have hk2 : k < 256 := by omega
  have hc : w.cell? ⟨g, k, none⟩ = some (.int .i64 (nAt mem k)) := (cell_of_row w g k _ 80 _ hg).trans (bigA_mem y hm hk2)
  have C := hide (cell_at g a w h0 h1)
  rw [hk, show ((k : Int)).toNat = k by omega] at C
  rw [hk, show ((k : Int)).toNat = k by omega]
  clear hg hk
  go_enter Try.func58, Try.ntmps58
  go_wp2_with fail
  refine (unhide C).mono ?_
  rintro e w' ⟨rfl, rfl⟩
  go_wp2
  go_ret
  exact ⟨rfl, rfl⟩
end Go.Proofs.Ytfkmibgamkignaa
