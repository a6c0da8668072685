/- A machine that is read, a machine that is owned; the laws' copy of a machine; over this seat's translation; conditions stand as hypotheses of each. -/
import Derived.Test.YtboedaofbchdkaaDoorMacA
namespace Go.Proofs.YtboedaofbchdkaaDoor
open Go.ChangeShapes Go.WideShapes Go.ChangeAt Go.RowKit
set_option linter.unusedVariables false
set_option maxRecDepth 8000
set_option linter.unusedSimpArgs false

/-- What the four lists of a machine hold. -/
structure Md where
  m : List Int
  r : List Int
  i : List Int
  o : List Int
def Sl.v (s : Sl) : Value := .slice s.a s.n s.c
/-- The flags, and how it stands. -/
def Mv.fl (x : Mv) : Bool × Bool × Bool × Bool × Int := (x.n, x.z, x.v, x.c, x.st)
theorem fl_n {x y : Mv} (h : y.fl = x.fl) : y.n = x.n := congrArg (·.1) h
theorem fl_z {x y : Mv} (h : y.fl = x.fl) : y.z = x.z := congrArg (·.2.1) h
theorem fl_v {x y : Mv} (h : y.fl = x.fl) : y.v = x.v := congrArg (·.2.2.1) h
theorem fl_c {x y : Mv} (h : y.fl = x.fl) : y.c = x.c := congrArg (·.2.2.2.1) h
theorem fl_st {x y : Mv} (h : y.fl = x.fl) : y.st = x.st := congrArg (·.2.2.2.2) h
/-- The machine x reads as d. -/
structure RdM (w : World) (x : Mv) (d : Md) : Prop where
  m : RdN w x.m.a d.m
  r : RdN w x.r.a d.r
  i : RdN w x.i.a d.i
  o : RdN w x.o.a d.o
  ml : d.m.length = x.m.n
  rl : d.r.length = x.r.n
  il : d.i.length = x.i.n
  ol : d.o.length = x.o.n
/-- Two slices in no block together. -/
def Ap (s t : Sl) : Prop := ∀ g, s.v.ownBlock = some g → t.v.ownBlock = some g → False
/-- The machine x is of blocks from B on, each list in a block of its own, and holds d. -/
structure OwnM (w : World) (B : Nat) (x : Mv) (d : Md) : Prop where
  m : OwnN w B x.m.v d.m
  r : OwnN w B x.r.v d.r
  i : OwnN w B x.i.v d.i
  o : OwnN w B x.o.v d.o
  mr : Ap x.m x.r
  mi : Ap x.m x.i
  mo : Ap x.m x.o
  ri : Ap x.r x.i
  ro : Ap x.r x.o
  io : Ap x.i x.o
theorem Ap.symm {s t : Sl} (h : Ap s t) : Ap t s := fun g a b => h g b a
theorem OwnN.len {w : World} {B : Nat} {s : Sl} {ns : List Int} (h : OwnN w B s.v ns) : ns.length = s.n := by
  obtain ⟨a, c, e, _⟩ := h.rd
  obtain ⟨sa, sn, sc⟩ := s
  unfold Sl.v at e
  simp at e
  exact e.2.1.symm
theorem OwnN.rdS {w : World} {B : Nat} {s : Sl} {ns : List Int} (h : OwnN w B s.v ns) : RdN w s.a ns := OwnN.rd1 (n := s.n) (cap := s.c) h
section
variable {w w' : World} {B C : Nat} {x y : Mv} {d e : Md}
theorem OwnM.rd (h : OwnM w B x d) : RdM w x d := ⟨h.m.rdS, h.r.rdS, h.i.rdS, h.o.rdS, h.m.len, h.r.len, h.i.len, h.o.len⟩
theorem RdM.later (h : RdM w x d) (hb : Below w.heap.size w w') : RdM w' x d := ⟨h.m.later hb, h.r.later hb, h.i.later hb, h.o.later hb, h.ml, h.rl, h.il, h.ol⟩
theorem OwnM.later (h : OwnM w B x d) (hb : Below w.heap.size w w') : OwnM w' B x d := { h with m := h.m.later hb, r := h.r.later hb, i := h.i.later hb, o := h.o.later hb }
theorem OwnM.keep (h : OwnM w B x d) (hs : ∀ g, B ≤ g → g < w.heap.size → w'.heap[g]? = w.heap[g]?) : OwnM w' B x d :=
  { h with m := h.m.keep fun g hv hg => hs g (h.m.lt hv).1 hg, r := h.r.keep fun g hv hg => hs g (h.r.lt hv).1 hg, i := h.i.keep fun g hv hg => hs g (h.i.lt hv).1 hg, o := h.o.keep fun g hv hg => hs g (h.o.lt hv).1 hg }
theorem OwnM.base (h : OwnM w B x d) (hB : C ≤ B) : OwnM w C x d := { h with m := h.m.base hB, r := h.r.base hB, i := h.i.base hB, o := h.o.base hB }
theorem Below.drop {B : Nat} {a w : World} {b j : Nat} {v : Value} (h : Below B a w) (hb : B ≤ b) : Below B a (w.setCell ⟨b, j, none⟩ v) := h.setCell (p := ⟨b, j, none⟩) hb v
theorem OwnN.put {w : World} {B b j : Nat} {v u : Value} {ns : List Int} (h : OwnN w B v ns) (hb : b < B) : OwnN (w.setCell ⟨b, j, none⟩ u) B v ns :=
  h.keep fun g hv hg => Below.heap_setCell w ⟨b, j, none⟩ u g (by have := (h.lt hv).1; show g ≠ b; omega)
end
/-- Blocks of two slices that are parted by a bound. -/
theorem ap_of {w w' : World} {B C : Nat} {s t : Sl} {ns ms : List Int} (h : OwnN w B s.v ns) (k : OwnN w' C t.v ms) (hC : w.heap.size ≤ C) : Ap s t := fun g a b => by
  have := (h.lt a).2
  have := (k.lt b).1
  omega
def zMv : Mv := ⟨⟨none, 0, 0⟩, ⟨none, 0, 0⟩, false, false, false, false, ⟨none, 0, 0⟩, ⟨none, 0, 0⟩, 0⟩
theorem row_put {w : World} {g : Nat} {x : Mv} {t : TypeId} (h : w.heap[g]? = some (.cells x.cs t (0, 0))) (j : Nat) (v : Value) (x' : Mv) (he : x.cs.setIfInBounds j v = x'.cs) : (w.setCell ⟨g, j, none⟩ v).heap[g]? = some (.cells x'.cs t (0, 0)) := by
  rw [setCell_eq_setRow w g j x.cs t (0, 0) v h, he]
  exact setRow_heap w g x.cs _ t _ h
theorem row_keep {w : World} {g b j : Nat} {u : Value} {o : Obj} (h : w.heap[g]? = some o) (hne : g ≠ b) : (w.setCell ⟨b, j, none⟩ u).heap[g]? = some o := (Below.heap_setCell w ⟨b, j, none⟩ u g hne).trans h
theorem row_lt {w : World} {g : Nat} {o : Obj} (h : w.heap[g]? = some o) : g < w.heap.size := (Array.getElem?_eq_some_iff.1 h).1
theorem row_lat {w w' : World} {g : Nat} {o : Obj} (h : w.heap[g]? = some o) (hb : Below w.heap.size w w') : w'.heap[g]? = some o := (hb.block g (row_lt h)).trans h
/-- While a machine is copied: what came in, the answer's place, what is made. -/
structure Cm (w wr : World) (tb : TypeId) (x o : Mv) : Prop where
  bx : wr.heap[w.heap.size]? = some (.cells x.cs tb (0, 0))
  re : wr.heap[w.heap.size + 1]? = some (.cells zMv.cs 32 (0, 0))
  out : wr.heap[w.heap.size + 1 + 1]? = some (.cells o.cs 32 (0, 0))
  bel : Below w.heap.size w wr
  sz : w.heap.size + 3 ≤ wr.heap.size
section
variable {w wr w' : World} {tb : TypeId} {x o : Mv}
theorem Cm.later (h : Cm w wr tb x o) (hb : Below wr.heap.size wr w') : Cm w w' tb x o :=
  ⟨row_lat h.bx hb, row_lat h.re hb, row_lat h.out hb, h.bel.trans (hb.mono (by have := h.bel.size; omega)), Nat.le_trans h.sz hb.size⟩
theorem Cm.put (h : Cm w wr tb x o) (j : Nat) (v : Value) (o' : Mv) (he : o.cs.setIfInBounds j v = o'.cs) : Cm w (wr.setCell ⟨w.heap.size + 1 + 1, j, none⟩ v) tb x o' :=
  ⟨row_keep h.bx (by omega), row_keep h.re (by omega), row_put h.out j v o' he, Below.drop h.bel (by omega), by simpa using h.sz⟩
theorem cm_new0 (w : World) (tb : TypeId) (x : Mv) : Cm w (((w.alloc (.cells x.cs tb)).alloc (.cells zMv.cs 32)).alloc (.cells zMv.cs 32)) tb x zMv := by
  have z1 : (w.alloc (.cells x.cs tb)).heap.size = w.heap.size + 1 := by simp
  have z2 : ((w.alloc (.cells x.cs tb)).alloc (.cells zMv.cs 32)).heap.size = w.heap.size + 2 := by simp
  have a1 := row_lat (row_lat (heap_alloc_last w (.cells x.cs tb)) ((Below.refl _ _).alloc (Nat.le_refl _) (.cells zMv.cs 32))) ((Below.refl _ _).alloc (Nat.le_refl _) (.cells zMv.cs 32))
  have a2 := row_lat (heap_alloc_last (w.alloc (.cells x.cs tb)) (.cells zMv.cs 32)) ((Below.refl _ _).alloc (Nat.le_refl _) (.cells zMv.cs 32))
  have a3 := heap_alloc_last ((w.alloc (.cells x.cs tb)).alloc (.cells zMv.cs 32)) (.cells zMv.cs 32)
  rw [z1] at a2
  rw [z2] at a3
  exact ⟨a1, a2, a3, (((Below.refl _ _).alloc (Nat.le_refl _) _).alloc (by omega) _).alloc (by omega) _, by simp⟩
theorem cm_new (w : World) (tb : TypeId) (x : Mv) : Cm w (((w.alloc (.cells x.cs tb)).alloc (.cells #[Value.slice none 0 0, Value.slice none 0 0, Value.bool false, Value.bool false, Value.bool false, Value.bool false, Value.slice none 0 0, Value.slice none 0 0, Value.int .i64 0] 32)).alloc (.cells #[Value.slice none 0 0, Value.slice none 0 0, Value.bool false, Value.bool false, Value.bool false, Value.bool false, Value.slice none 0 0, Value.slice none 0 0, Value.int .i64 0] 32)) tb x zMv := cm_new0 w tb x
end
theorem RdN.put {w : World} {a : Option Addr} {ns : List Int} (h : RdN w a ns) {b j : Nat} {v : Value} (hne : ns = [] ∨ ∀ ad, a = some ad → ad.block ≠ b) : RdN (w.setCell ⟨b, j, none⟩ v) a ns := by
  rcases hne with h0 | hne
  · exact .inl h0
  · exact h.past (grownBy_set v) hne
/-- What came in reads on while the copy is written. -/
theorem RdM.set {w wr : World} {x o : Mv} {d : Md} {tb : TypeId} (h : RdM wr x d) (k : Cm w wr tb x o) (hw : RdM w x d) (j : Nat) (v : Value) : RdM (wr.setCell ⟨w.heap.size + 1 + 1, j, none⟩ v) x d := by
  have key : ∀ {a : Option Addr} {ns : List Int}, RdN w a ns → ns = [] ∨ ∀ ad, a = some ad → ad.block ≠ w.heap.size + 1 + 1 := fun hr => by
    rcases hr with h0 | ⟨b, off, rfl, hb, _⟩
    · exact .inl h0
    · exact .inr fun ad e => by cases e; show b ≠ _; omega
  exact ⟨h.m.put (key hw.m), h.r.put (key hw.r), h.i.put (key hw.i), h.o.put (key hw.o), h.ml, h.rl, h.il, h.ol⟩
theorem setRow_size (w : World) (g : Nat) (cs : Array Value) : (w.setRow g cs).heap.size = w.heap.size := by simp [World.setRow]
/-- What stands when a copy is laid into the answer's place. -/
structure Cd (w wr : World) (o : Mv) : Prop where
  re : wr.heap[w.heap.size + 1]? = some (.cells o.cs 32 (0, 0))
  bel : Below w.heap.size w wr
theorem Cm.done {w wr : World} {tb : TypeId} {x o : Mv} (h : Cm w wr tb x o) : Cd w (wr.setRow (w.heap.size + 1) o.cs) o :=
  ⟨setRow_heap wr _ zMv.cs _ 32 _ h.re, below_setRow h.bel (by omega) _⟩
theorem OwnN.row {w : World} {B g : Nat} {v : Value} {ns : List Int} (h : OwnN w B v ns) (hb : g < B) (cs : Array Value) : OwnN (w.setRow g cs) B v ns :=
  h.keep fun j hv hj => setRow_other w g j cs (by have := (h.lt hv).1; omega)

set_option maxHeartbeats 4000000 in
theorem toM_any (x : Mv) (d : Md) (w : World) (hs : x.small) (hr : RdM w x d) : Calls Tryd.prog 15 #[.agg x.cs] w fun e w' => ∃ y : Mv, e = .returned (.agg y.cs) ∧ y.fl = x.fl ∧ OwnM w' (w.heap.size + 3) y d ∧ Below w.heap.size w w' := by
  obtain ⟨s0, s1, s2, s3⟩ := hs
  have C := hide (cm_new w 38 x)
  have HR := hide hr
  have R := hide (hr.later (unhide C).bel)
  have q0 : x.cs[0]? = some (.slice x.m.a x.m.n x.m.c) := rfl
  have T := hide (toIntS_any x.m.a x.m.n x.m.c d.m _ hr.ml s0 (unhide R).m)
  clear hr
  go_enter Tryd.func15, Tryd.ntmps15
  go_wp2_with fail
  refine (unhide T).mono ?_
  rintro e w0 ⟨v, rfl, own, bel⟩
  obtain ⟨a0, n0, c0, rfl⟩ : ∃ a n c, v = .slice a n c := by obtain ⟨a, c, e, _⟩ := own.rd; exact ⟨_, _, _, e⟩
  have Cn := hide ((unhide C).later bel)
  have Rn := hide ((unhide R).later bel)
  have O0 := hide (OwnN.base own (B' := w.heap.size + 3) (unhide C).sz)
  clear own bel T C R q0
  have o0 := row_m (unhide Cn).out
  have f0 := row_fz (unhide Cn).out 0
  have b1 := row_r (unhide Cn).bx
  have C := hide ((unhide Cn).put 0 (.slice a0 n0 c0) (⟨⟨a0, n0, c0⟩, ⟨none, 0, 0⟩, false, false, false, false, ⟨none, 0, 0⟩, ⟨none, 0, 0⟩, 0⟩ : Mv) rfl)
  have R := hide ((unhide Rn).set (unhide Cn) (unhide HR) 0 (.slice a0 n0 c0))
  have On := hide ((unhide O0).put (b := w.heap.size + 1 + 1) (j := 0) (u := .slice a0 n0 c0) (by omega))
  clear O0
  have O0 := hide (unhide On)
  clear On
  have T := hide (toIntS_any x.r.a x.r.n x.r.c d.r _ (unhide R).rl s1 (unhide R).r)
  clear Cn Rn
  go_wp2_with fail
  refine (unhide T).mono ?_
  rintro e w1 ⟨v, rfl, own, bel⟩
  obtain ⟨a1, n1, c1, rfl⟩ : ∃ a n c, v = .slice a n c := by obtain ⟨a, c, e, _⟩ := own.rd; exact ⟨_, _, _, e⟩
  have Cn := hide ((unhide C).later bel)
  have Rn := hide ((unhide R).later bel)
  have O1 := hide (OwnN.base own (B' := w.heap.size + 3) (unhide C).sz)
  have On := hide ((unhide O0).later bel)
  have A01 : Hid (Ap ⟨a0, n0, c0⟩ ⟨a1, n1, c1⟩) := hide (ap_of (unhide O0) own (Nat.le_refl _))
  clear O0
  have O0 := hide (unhide On)
  clear On
  clear own bel T C R
  have o1 := row_r (unhide Cn).out
  have f1 := row_fz (unhide Cn).out 1
  have o2 := row_n (unhide Cn).out
  have f2 := row_fz (unhide Cn).out 2
  have b2 := row_n (unhide Cn).bx
  have o3 := row_z (unhide Cn).out
  have f3 := row_fz (unhide Cn).out 3
  have b3 := row_z (unhide Cn).bx
  have o4 := row_v (unhide Cn).out
  have f4 := row_fz (unhide Cn).out 4
  have b4 := row_v (unhide Cn).bx
  have o5 := row_c (unhide Cn).out
  have f5 := row_fz (unhide Cn).out 5
  have b5 := row_c (unhide Cn).bx
  have b6 := row_i (unhide Cn).bx
  have C := hide ((((((unhide Cn).put 1 (.slice a1 n1 c1) (⟨⟨a0, n0, c0⟩, ⟨a1, n1, c1⟩, false, false, false, false, ⟨none, 0, 0⟩, ⟨none, 0, 0⟩, 0⟩ : Mv) rfl).put 2 (.bool x.n) (⟨⟨a0, n0, c0⟩, ⟨a1, n1, c1⟩, x.n, false, false, false, ⟨none, 0, 0⟩, ⟨none, 0, 0⟩, 0⟩ : Mv) rfl).put 3 (.bool x.z) (⟨⟨a0, n0, c0⟩, ⟨a1, n1, c1⟩, x.n, x.z, false, false, ⟨none, 0, 0⟩, ⟨none, 0, 0⟩, 0⟩ : Mv) rfl).put 4 (.bool x.v) (⟨⟨a0, n0, c0⟩, ⟨a1, n1, c1⟩, x.n, x.z, x.v, false, ⟨none, 0, 0⟩, ⟨none, 0, 0⟩, 0⟩ : Mv) rfl).put 5 (.bool x.c) (⟨⟨a0, n0, c0⟩, ⟨a1, n1, c1⟩, x.n, x.z, x.v, x.c, ⟨none, 0, 0⟩, ⟨none, 0, 0⟩, 0⟩ : Mv) rfl)
  have R := hide ((((((unhide Rn).set (unhide Cn) (unhide HR) 1 (.slice a1 n1 c1)).set ((unhide Cn).put 1 (.slice a1 n1 c1) (⟨⟨a0, n0, c0⟩, ⟨a1, n1, c1⟩, false, false, false, false, ⟨none, 0, 0⟩, ⟨none, 0, 0⟩, 0⟩ : Mv) rfl) (unhide HR) 2 (.bool x.n)).set (((unhide Cn).put 1 (.slice a1 n1 c1) (⟨⟨a0, n0, c0⟩, ⟨a1, n1, c1⟩, false, false, false, false, ⟨none, 0, 0⟩, ⟨none, 0, 0⟩, 0⟩ : Mv) rfl).put 2 (.bool x.n) (⟨⟨a0, n0, c0⟩, ⟨a1, n1, c1⟩, x.n, false, false, false, ⟨none, 0, 0⟩, ⟨none, 0, 0⟩, 0⟩ : Mv) rfl) (unhide HR) 3 (.bool x.z)).set ((((unhide Cn).put 1 (.slice a1 n1 c1) (⟨⟨a0, n0, c0⟩, ⟨a1, n1, c1⟩, false, false, false, false, ⟨none, 0, 0⟩, ⟨none, 0, 0⟩, 0⟩ : Mv) rfl).put 2 (.bool x.n) (⟨⟨a0, n0, c0⟩, ⟨a1, n1, c1⟩, x.n, false, false, false, ⟨none, 0, 0⟩, ⟨none, 0, 0⟩, 0⟩ : Mv) rfl).put 3 (.bool x.z) (⟨⟨a0, n0, c0⟩, ⟨a1, n1, c1⟩, x.n, x.z, false, false, ⟨none, 0, 0⟩, ⟨none, 0, 0⟩, 0⟩ : Mv) rfl) (unhide HR) 4 (.bool x.v)).set (((((unhide Cn).put 1 (.slice a1 n1 c1) (⟨⟨a0, n0, c0⟩, ⟨a1, n1, c1⟩, false, false, false, false, ⟨none, 0, 0⟩, ⟨none, 0, 0⟩, 0⟩ : Mv) rfl).put 2 (.bool x.n) (⟨⟨a0, n0, c0⟩, ⟨a1, n1, c1⟩, x.n, false, false, false, ⟨none, 0, 0⟩, ⟨none, 0, 0⟩, 0⟩ : Mv) rfl).put 3 (.bool x.z) (⟨⟨a0, n0, c0⟩, ⟨a1, n1, c1⟩, x.n, x.z, false, false, ⟨none, 0, 0⟩, ⟨none, 0, 0⟩, 0⟩ : Mv) rfl).put 4 (.bool x.v) (⟨⟨a0, n0, c0⟩, ⟨a1, n1, c1⟩, x.n, x.z, x.v, false, ⟨none, 0, 0⟩, ⟨none, 0, 0⟩, 0⟩ : Mv) rfl) (unhide HR) 5 (.bool x.c))
  have On := hide ((((((unhide O0).put (b := w.heap.size + 1 + 1) (j := 1) (u := .slice a1 n1 c1) (by omega)).put (b := w.heap.size + 1 + 1) (j := 2) (u := .bool x.n) (by omega)).put (b := w.heap.size + 1 + 1) (j := 3) (u := .bool x.z) (by omega)).put (b := w.heap.size + 1 + 1) (j := 4) (u := .bool x.v) (by omega)).put (b := w.heap.size + 1 + 1) (j := 5) (u := .bool x.c) (by omega))
  clear O0
  have O0 := hide (unhide On)
  clear On
  have On := hide ((((((unhide O1).put (b := w.heap.size + 1 + 1) (j := 1) (u := .slice a1 n1 c1) (by omega)).put (b := w.heap.size + 1 + 1) (j := 2) (u := .bool x.n) (by omega)).put (b := w.heap.size + 1 + 1) (j := 3) (u := .bool x.z) (by omega)).put (b := w.heap.size + 1 + 1) (j := 4) (u := .bool x.v) (by omega)).put (b := w.heap.size + 1 + 1) (j := 5) (u := .bool x.c) (by omega))
  clear O1
  have O1 := hide (unhide On)
  clear On
  have T := hide (toIntS_any x.i.a x.i.n x.i.c d.i _ (unhide R).il s2 (unhide R).i)
  clear Cn Rn
  go_wp2_with fail
  refine (unhide T).mono ?_
  rintro e w2 ⟨v, rfl, own, bel⟩
  obtain ⟨a2, n2, c2, rfl⟩ : ∃ a n c, v = .slice a n c := by obtain ⟨a, c, e, _⟩ := own.rd; exact ⟨_, _, _, e⟩
  have Cn := hide ((unhide C).later bel)
  have Rn := hide ((unhide R).later bel)
  have O2 := hide (OwnN.base own (B' := w.heap.size + 3) (unhide C).sz)
  have On := hide ((unhide O0).later bel)
  have A02 : Hid (Ap ⟨a0, n0, c0⟩ ⟨a2, n2, c2⟩) := hide (ap_of (unhide O0) own (Nat.le_refl _))
  clear O0
  have O0 := hide (unhide On)
  clear On
  have On := hide ((unhide O1).later bel)
  have A12 : Hid (Ap ⟨a1, n1, c1⟩ ⟨a2, n2, c2⟩) := hide (ap_of (unhide O1) own (Nat.le_refl _))
  clear O1
  have O1 := hide (unhide On)
  clear On
  clear own bel T C R
  have o6 := row_i (unhide Cn).out
  have f6 := row_fz (unhide Cn).out 6
  have b7 := row_o (unhide Cn).bx
  have C := hide ((unhide Cn).put 6 (.slice a2 n2 c2) (⟨⟨a0, n0, c0⟩, ⟨a1, n1, c1⟩, x.n, x.z, x.v, x.c, ⟨a2, n2, c2⟩, ⟨none, 0, 0⟩, 0⟩ : Mv) rfl)
  have R := hide ((unhide Rn).set (unhide Cn) (unhide HR) 6 (.slice a2 n2 c2))
  have On := hide ((unhide O0).put (b := w.heap.size + 1 + 1) (j := 6) (u := .slice a2 n2 c2) (by omega))
  clear O0
  have O0 := hide (unhide On)
  clear On
  have On := hide ((unhide O1).put (b := w.heap.size + 1 + 1) (j := 6) (u := .slice a2 n2 c2) (by omega))
  clear O1
  have O1 := hide (unhide On)
  clear On
  have On := hide ((unhide O2).put (b := w.heap.size + 1 + 1) (j := 6) (u := .slice a2 n2 c2) (by omega))
  clear O2
  have O2 := hide (unhide On)
  clear On
  have T := hide (toIntS_any x.o.a x.o.n x.o.c d.o _ (unhide R).ol s3 (unhide R).o)
  clear Cn Rn
  go_wp2_with fail
  refine (unhide T).mono ?_
  rintro e w3 ⟨v, rfl, own, bel⟩
  obtain ⟨a3, n3, c3, rfl⟩ : ∃ a n c, v = .slice a n c := by obtain ⟨a, c, e, _⟩ := own.rd; exact ⟨_, _, _, e⟩
  have Cn := hide ((unhide C).later bel)
  have Rn := hide ((unhide R).later bel)
  have O3 := hide (OwnN.base own (B' := w.heap.size + 3) (unhide C).sz)
  have On := hide ((unhide O0).later bel)
  have A03 : Hid (Ap ⟨a0, n0, c0⟩ ⟨a3, n3, c3⟩) := hide (ap_of (unhide O0) own (Nat.le_refl _))
  clear O0
  have O0 := hide (unhide On)
  clear On
  have On := hide ((unhide O1).later bel)
  have A13 : Hid (Ap ⟨a1, n1, c1⟩ ⟨a3, n3, c3⟩) := hide (ap_of (unhide O1) own (Nat.le_refl _))
  clear O1
  have O1 := hide (unhide On)
  clear On
  have On := hide ((unhide O2).later bel)
  have A23 : Hid (Ap ⟨a2, n2, c2⟩ ⟨a3, n3, c3⟩) := hide (ap_of (unhide O2) own (Nat.le_refl _))
  clear O2
  have O2 := hide (unhide On)
  clear On
  clear own bel T C R
  have o7 := row_o (unhide Cn).out
  have f7 := row_fz (unhide Cn).out 7
  have o8 := row_st (unhide Cn).out
  have f8 := row_fz (unhide Cn).out 8
  have b8 := row_st (unhide Cn).bx
  have C := hide (((unhide Cn).put 7 (.slice a3 n3 c3) (⟨⟨a0, n0, c0⟩, ⟨a1, n1, c1⟩, x.n, x.z, x.v, x.c, ⟨a2, n2, c2⟩, ⟨a3, n3, c3⟩, 0⟩ : Mv) rfl).put 8 (.int .i64 x.st) (⟨⟨a0, n0, c0⟩, ⟨a1, n1, c1⟩, x.n, x.z, x.v, x.c, ⟨a2, n2, c2⟩, ⟨a3, n3, c3⟩, x.st⟩ : Mv) rfl)
  have On := hide (((unhide O0).put (b := w.heap.size + 1 + 1) (j := 7) (u := .slice a3 n3 c3) (by omega)).put (b := w.heap.size + 1 + 1) (j := 8) (u := .int .i64 x.st) (by omega))
  clear O0
  have O0 := hide (unhide On)
  clear On
  have On := hide (((unhide O1).put (b := w.heap.size + 1 + 1) (j := 7) (u := .slice a3 n3 c3) (by omega)).put (b := w.heap.size + 1 + 1) (j := 8) (u := .int .i64 x.st) (by omega))
  clear O1
  have O1 := hide (unhide On)
  clear On
  have On := hide (((unhide O2).put (b := w.heap.size + 1 + 1) (j := 7) (u := .slice a3 n3 c3) (by omega)).put (b := w.heap.size + 1 + 1) (j := 8) (u := .int .i64 x.st) (by omega))
  clear O2
  have O2 := hide (unhide On)
  clear On
  have On := hide (((unhide O3).put (b := w.heap.size + 1 + 1) (j := 7) (u := .slice a3 n3 c3) (by omega)).put (b := w.heap.size + 1 + 1) (j := 8) (u := .int .i64 x.st) (by omega))
  clear O3
  have O3 := hide (unhide On)
  clear On
  clear Cn Rn
  go_wp2_with (first | (refine wpList_load_row rfl 32 _ rfl (w.heap.size + 1 + 1) rfl 32 (Mv.cs (⟨⟨a0, n0, c0⟩, ⟨a1, n1, c1⟩, x.n, x.z, x.v, x.c, ⟨a2, n2, c2⟩, ⟨a3, n3, c3⟩, x.st⟩ : Mv)) (0, 0) _ (unhide C).out Tryd.underlying32 rfl (by kernel_rfl) ?_) | (refine wpList_store_row rfl 32 _ _ rfl (w.heap.size + 1) (Mv.cs (⟨⟨a0, n0, c0⟩, ⟨a1, n1, c1⟩, x.n, x.z, x.v, x.c, ⟨a2, n2, c2⟩, ⟨a3, n3, c3⟩, x.st⟩ : Mv)) rfl rfl 32 zMv.cs (unhide C).re (by kernel_rfl) rfl (Mv.cs_one _) ?_))
  refine bodyPost_ret (results_cell_row (P := Tryd.prog) rfl _ _ (w.heap.size + 1) 32 (Mv.cs (⟨⟨a0, n0, c0⟩, ⟨a1, n1, c1⟩, x.n, x.z, x.v, x.c, ⟨a2, n2, c2⟩, ⟨a3, n3, c3⟩, x.st⟩ : Mv)) (0, 0) _ rfl (unhide C).done.re Tryd.underlying32 rfl (by kernel_rfl)) rfl ?_
  exact ⟨(⟨⟨a0, n0, c0⟩, ⟨a1, n1, c1⟩, x.n, x.z, x.v, x.c, ⟨a2, n2, c2⟩, ⟨a3, n3, c3⟩, x.st⟩ : Mv), rfl, rfl, ⟨(unhide O0).row (by omega) _, (unhide O1).row (by omega) _, (unhide O2).row (by omega) _, (unhide O3).row (by omega) _, unhide A01, unhide A02, unhide A03, unhide A12, unhide A13, unhide A23⟩, (unhide C).done.bel⟩
end Go.Proofs.YtboedaofbchdkaaDoor
