/- Contracts over this seat's translation, laid together; conditions stand as hypotheses of each. -/
import Derived.Test.YtboedaofbchdkaaGreatDoorRsA
namespace Go.Proofs.YtboedaofbchdkaaGreatDoor
open Go.ChangeShapes Go.WideShapes Go.ChangeAt Go.RowKit
set_option maxHeartbeats 16000000
set_option linter.unusedVariables false
set_option maxRecDepth 8000
set_option linter.unusedSimpArgs false
section
structure Md where
 m : List Int
 r : List Int
 i : List Int
 o : List Int
def Sl.v (s : Sl) : Value := .slice s.a s.n s.c
def Mv.fl (x : Mv) : Bool × Bool × Bool × Bool × Int := (x.n, x.z, x.v, x.c, x.st)
theorem fl_n {x y : Mv} (h : y.fl = x.fl) : y.n = x.n := congrArg (·.1) h
theorem fl_z {x y : Mv} (h : y.fl = x.fl) : y.z = x.z := congrArg (·.2.1) h
theorem fl_v {x y : Mv} (h : y.fl = x.fl) : y.v = x.v := congrArg (·.2.2.1) h
theorem fl_c {x y : Mv} (h : y.fl = x.fl) : y.c = x.c := congrArg (·.2.2.2.1) h
theorem fl_st {x y : Mv} (h : y.fl = x.fl) : y.st = x.st := congrArg (·.2.2.2.2) h
structure RdM (w : World) (x : Mv) (d : Md) : Prop where
 m : RdN w x.m.a d.m
 r : RdN w x.r.a d.r
 i : RdN w x.i.a d.i
 o : RdN w x.o.a d.o
 ml : d.m.length = x.m.n
 rl : d.r.length = x.r.n
 il : d.i.length = x.i.n
 ol : d.o.length = x.o.n
def Ap (s t : Sl) : Prop := ∀ g, s.v.ownBlock = some g → t.v.ownBlock = some g → False
structure OwnM (w : World) (B : Nat) (x : Mv) (d : Md) : Prop where
 m : OwnN w B x.m.v d.m
 r : OwnN w B x.r.v d.r
 i : OwnN w B x.i.v d.i
 o : OwnN w B x.o.v d.o
 mr : Ap x.m x.r
 mi : Ap x.m x.i
 mo : Ap x.m x.o
 ri : Ap x.r x.i
 ro : Ap x.r x.o
 io : Ap x.i x.o
theorem OwnN.len {w : World} {B : Nat} {s : Sl} {ns : List Int} (h : OwnN w B s.v ns) : ns.length = s.n := by
 obtain ⟨a, c, e, _⟩ := h.rd
 obtain ⟨sa, sn, sc⟩ := s
 unfold Sl.v at e
 simp at e
 exact e.2.1.symm
theorem OwnN.rdS {w : World} {B : Nat} {s : Sl} {ns : List Int} (h : OwnN w B s.v ns) : RdN w s.a ns := OwnN.rd1 (n := s.n) (cap := s.c) h
section
variable {w w' : World} {B C : Nat} {x y : Mv} {d e : Md}
theorem OwnM.rd (h : OwnM w B x d) : RdM w x d := ⟨h.m.rdS, h.r.rdS, h.i.rdS, h.o.rdS, h.m.len, h.r.len, h.i.len, h.o.len⟩
theorem RdM.later (h : RdM w x d) (hb : Below w.heap.size w w') : RdM w' x d := ⟨h.m.later hb, h.r.later hb, h.i.later hb, h.o.later hb, h.ml, h.rl, h.il, h.ol⟩
theorem OwnM.later (h : OwnM w B x d) (hb : Below w.heap.size w w') : OwnM w' B x d := { h with m := h.m.later hb, r := h.r.later hb, i := h.i.later hb, o := h.o.later hb }
theorem OwnM.keep (h : OwnM w B x d) (hs : ∀ g, B ≤ g → g < w.heap.size → w'.heap[g]? = w.heap[g]?) : OwnM w' B x d :=
 { h with m := h.m.keep fun g hv hg => hs g (h.m.lt hv).1 hg, r := h.r.keep fun g hv hg => hs g (h.r.lt hv).1 hg, i := h.i.keep fun g hv hg => hs g (h.i.lt hv).1 hg, o := h.o.keep fun g hv hg => hs g (h.o.lt hv).1 hg }
theorem OwnM.base (h : OwnM w B x d) (hB : C ≤ B) : OwnM w C x d := { h with m := h.m.base hB, r := h.r.base hB, i := h.i.base hB, o := h.o.base hB }
theorem Below.drop {B : Nat} {a w : World} {b j : Nat} {v : Value} (h : Below B a w) (hb : B ≤ b) : Below B a (w.setCell ⟨b, j, none⟩ v) := h.setCell (p := ⟨b, j, none⟩) hb v
theorem OwnN.put {w : World} {B b j : Nat} {v u : Value} {ns : List Int} (h : OwnN w B v ns) (hb : b < B) : OwnN (w.setCell ⟨b, j, none⟩ u) B v ns :=
 h.keep fun g hv hg => Below.heap_setCell w ⟨b, j, none⟩ u g (by have := (h.lt hv).1; show g ≠ b; omega)
end
theorem ap_of {w w' : World} {B C : Nat} {s t : Sl} {ns ms : List Int} (h : OwnN w B s.v ns) (k : OwnN w' C t.v ms) (hC : w.heap.size ≤ C) : Ap s t := fun g a b => by
 have := (h.lt a).2
 have := (k.lt b).1
 omega
def zMv : Mv := ⟨⟨none, 0, 0⟩, ⟨none, 0, 0⟩, false, false, false, false, ⟨none, 0, 0⟩, ⟨none, 0, 0⟩, 0⟩
theorem row_put {w : World} {g : Nat} {x : Mv} {t : TypeId} (h : w.heap[g]? = some (.cells x.cs t (0, 0))) (j : Nat) (v : Value) (x' : Mv) (he : x.cs.setIfInBounds j v = x'.cs) : (w.setCell ⟨g, j, none⟩ v).heap[g]? = some (.cells x'.cs t (0, 0)) := by
 rw [setCell_eq_setRow w g j x.cs t (0, 0) v h, he]
 exact setRow_heap w g x.cs _ t _ h
theorem row_keep {w : World} {g b j : Nat} {u : Value} {o : Obj} (h : w.heap[g]? = some o) (hne : g ≠ b) : (w.setCell ⟨b, j, none⟩ u).heap[g]? = some o := (Below.heap_setCell w ⟨b, j, none⟩ u g hne).trans h
theorem row_lt {w : World} {g : Nat} {o : Obj} (h : w.heap[g]? = some o) : g < w.heap.size := (Array.getElem?_eq_some_iff.1 h).1
theorem row_lat {w w' : World} {g : Nat} {o : Obj} (h : w.heap[g]? = some o) (hb : Below w.heap.size w w') : w'.heap[g]? = some o := (hb.block g (row_lt h)).trans h
structure Cm (w wr : World) (tb : TypeId) (x o : Mv) : Prop where
 bx : wr.heap[w.heap.size]? = some (.cells x.cs tb (0, 0))
 re : wr.heap[w.heap.size + 1]? = some (.cells zMv.cs 26 (0, 0))
 out : wr.heap[w.heap.size + 1 + 1]? = some (.cells o.cs 26 (0, 0))
 bel : Below w.heap.size w wr
 sz : w.heap.size + 3 ≤ wr.heap.size
section
variable {w wr w' : World} {tb : TypeId} {x o : Mv}
theorem Cm.later (h : Cm w wr tb x o) (hb : Below wr.heap.size wr w') : Cm w w' tb x o :=
 ⟨row_lat h.bx hb, row_lat h.re hb, row_lat h.out hb, h.bel.trans (hb.mono (by have := h.bel.size; omega)), Nat.le_trans h.sz hb.size⟩
theorem Cm.put (h : Cm w wr tb x o) (j : Nat) (v : Value) (o' : Mv) (he : o.cs.setIfInBounds j v = o'.cs) : Cm w (wr.setCell ⟨w.heap.size + 1 + 1, j, none⟩ v) tb x o' :=
 ⟨row_keep h.bx (by omega), row_keep h.re (by omega), row_put h.out j v o' he, Below.drop h.bel (by omega), by simpa using h.sz⟩
theorem cm_new0 (w : World) (tb : TypeId) (x : Mv) : Cm w (((w.alloc (.cells x.cs tb)).alloc (.cells zMv.cs 26)).alloc (.cells zMv.cs 26)) tb x zMv := by
 have z1 : (w.alloc (.cells x.cs tb)).heap.size = w.heap.size + 1 := by simp
 have z2 : ((w.alloc (.cells x.cs tb)).alloc (.cells zMv.cs 26)).heap.size = w.heap.size + 2 := by simp
 have a1 := row_lat (row_lat (heap_alloc_last w (.cells x.cs tb)) ((Below.refl _ _).alloc (Nat.le_refl _) (.cells zMv.cs 26))) ((Below.refl _ _).alloc (Nat.le_refl _) (.cells zMv.cs 26))
 have a2 := row_lat (heap_alloc_last (w.alloc (.cells x.cs tb)) (.cells zMv.cs 26)) ((Below.refl _ _).alloc (Nat.le_refl _) (.cells zMv.cs 26))
 have a3 := heap_alloc_last ((w.alloc (.cells x.cs tb)).alloc (.cells zMv.cs 26)) (.cells zMv.cs 26)
 rw [z1] at a2
 rw [z2] at a3
 exact ⟨a1, a2, a3, (((Below.refl _ _).alloc (Nat.le_refl _) _).alloc (by omega) _).alloc (by omega) _, by simp⟩
theorem cm_new (w : World) (tb : TypeId) (x : Mv) : Cm w (((w.alloc (.cells x.cs tb)).alloc (.cells #[Value.slice none 0 0, Value.slice none 0 0, Value.bool false, Value.bool false, Value.bool false, Value.bool false, Value.slice none 0 0, Value.slice none 0 0, Value.int .i64 0] 26)).alloc (.cells #[Value.slice none 0 0, Value.slice none 0 0, Value.bool false, Value.bool false, Value.bool false, Value.bool false, Value.slice none 0 0, Value.slice none 0 0, Value.int .i64 0] 26)) tb x zMv := cm_new0 w tb x
end
theorem RdN.put {w : World} {a : Option Addr} {ns : List Int} (h : RdN w a ns) {b j : Nat} {v : Value} (hne : ns = [] ∨ ∀ ad, a = some ad → ad.block ≠ b) : RdN (w.setCell ⟨b, j, none⟩ v) a ns := by
 rcases hne with h0 | hne
 · exact .inl h0
 · exact h.past (grownBy_set v) hne
theorem RdM.set {w wr : World} {x o : Mv} {d : Md} {tb : TypeId} (h : RdM wr x d) (k : Cm w wr tb x o) (hw : RdM w x d) (j : Nat) (v : Value) : RdM (wr.setCell ⟨w.heap.size + 1 + 1, j, none⟩ v) x d := by
 have key : ∀ {a : Option Addr} {ns : List Int}, RdN w a ns → ns = [] ∨ ∀ ad, a = some ad → ad.block ≠ w.heap.size + 1 + 1 := fun hr => by
  rcases hr with h0 | ⟨b, off, rfl, hb, _⟩
  · exact .inl h0
  · exact .inr fun ad e => by cases e; show b ≠ _; omega
 exact ⟨h.m.put (key hw.m), h.r.put (key hw.r), h.i.put (key hw.i), h.o.put (key hw.o), h.ml, h.rl, h.il, h.ol⟩
theorem setRow_size (w : World) (g : Nat) (cs : Array Value) : (w.setRow g cs).heap.size = w.heap.size := by simp [World.setRow]
structure Cd (w wr : World) (o : Mv) : Prop where
 re : wr.heap[w.heap.size + 1]? = some (.cells o.cs 26 (0, 0))
 bel : Below w.heap.size w wr
theorem Cm.done {w wr : World} {tb : TypeId} {x o : Mv} (h : Cm w wr tb x o) : Cd w (wr.setRow (w.heap.size + 1) o.cs) o :=
 ⟨setRow_heap wr _ zMv.cs _ 26 _ h.re, below_setRow h.bel (by omega) _⟩
theorem OwnN.row {w : World} {B g : Nat} {v : Value} {ns : List Int} (h : OwnN w B v ns) (hb : g < B) (cs : Array Value) : OwnN (w.setRow g cs) B v ns :=
 h.keep fun j hv hj => setRow_other w g j cs (by have := (h.lt hv).1; omega)
theorem toM_any (x : Mv) (d : Md) (w : World) (hs : x.small) (hr : RdM w x d) : Calls Tryz.prog 6 #[.agg x.cs] w fun e w' => ∃ y : Mv, e = .returned (.agg y.cs) ∧ y.fl = x.fl ∧ OwnM w' (w.heap.size + 3) y d ∧ Below w.heap.size w w' := by
 obtain ⟨s0, s1, s2, s3⟩ := hs
 have C := hide (cm_new w 24 x)
 have HR := hide hr
 have R := hide (hr.later (uh C).bel)
 have q0 : x.cs[0]? = some (.slice x.m.a x.m.n x.m.c) := rfl
 have T := hide (toIntS_any x.m.a x.m.n x.m.c d.m _ hr.ml s0 (uh R).m)
 clear hr
 go_enter Tryz.func6, Tryz.ntmps6
 go_wp2_with fail
 refine (uh T).mono ?_
 rintro e w0 ⟨v, rfl, own, bel⟩
 obtain ⟨a0, n0, c0, rfl⟩ : ∃ a n c, v = .slice a n c := by obtain ⟨a, c, e, _⟩ := own.rd; exact ⟨_, _, _, e⟩
 have Cn := hide ((uh C).later bel)
 have Rn := hide ((uh R).later bel)
 have O0 := hide (OwnN.base own (B' := w.heap.size + 3) (uh C).sz)
 clear own bel T C R q0
 have o0 := row_m (uh Cn).out
 have f0 := row_fz (uh Cn).out 0
 have b1 := row_r (uh Cn).bx
 have C := hide ((uh Cn).put 0 (.slice a0 n0 c0) (⟨⟨a0, n0, c0⟩, ⟨none, 0, 0⟩, false, false, false, false, ⟨none, 0, 0⟩, ⟨none, 0, 0⟩, 0⟩ : Mv) rfl)
 have R := hide ((uh Rn).set (uh Cn) (uh HR) 0 (.slice a0 n0 c0))
 have On := hide ((uh O0).put (b := w.heap.size + 1 + 1) (j := 0) (u := .slice a0 n0 c0) (by omega))
 clear O0
 have O0 := hide (uh On)
 clear On
 have T := hide (toIntS_any x.r.a x.r.n x.r.c d.r _ (uh R).rl s1 (uh R).r)
 clear Cn Rn
 go_wp2_with fail
 refine (uh T).mono ?_
 rintro e w1 ⟨v, rfl, own, bel⟩
 obtain ⟨a1, n1, c1, rfl⟩ : ∃ a n c, v = .slice a n c := by obtain ⟨a, c, e, _⟩ := own.rd; exact ⟨_, _, _, e⟩
 have Cn := hide ((uh C).later bel)
 have Rn := hide ((uh R).later bel)
 have O1 := hide (OwnN.base own (B' := w.heap.size + 3) (uh C).sz)
 have On := hide ((uh O0).later bel)
 have A01 : Hid (Ap ⟨a0, n0, c0⟩ ⟨a1, n1, c1⟩) := hide (ap_of (uh O0) own (Nat.le_refl _))
 clear O0
 have O0 := hide (uh On)
 clear On
 clear own bel T C R
 have o1 := row_r (uh Cn).out
 have f1 := row_fz (uh Cn).out 1
 have o2 := row_n (uh Cn).out
 have f2 := row_fz (uh Cn).out 2
 have b2 := row_n (uh Cn).bx
 have o3 := row_z (uh Cn).out
 have f3 := row_fz (uh Cn).out 3
 have b3 := row_z (uh Cn).bx
 have o4 := row_v (uh Cn).out
 have f4 := row_fz (uh Cn).out 4
 have b4 := row_v (uh Cn).bx
 have o5 := row_c (uh Cn).out
 have f5 := row_fz (uh Cn).out 5
 have b5 := row_c (uh Cn).bx
 have b6 := row_i (uh Cn).bx
 have C := hide ((((((uh Cn).put 1 (.slice a1 n1 c1) (⟨⟨a0, n0, c0⟩, ⟨a1, n1, c1⟩, false, false, false, false, ⟨none, 0, 0⟩, ⟨none, 0, 0⟩, 0⟩ : Mv) rfl).put 2 (.bool x.n) (⟨⟨a0, n0, c0⟩, ⟨a1, n1, c1⟩, x.n, false, false, false, ⟨none, 0, 0⟩, ⟨none, 0, 0⟩, 0⟩ : Mv) rfl).put 3 (.bool x.z) (⟨⟨a0, n0, c0⟩, ⟨a1, n1, c1⟩, x.n, x.z, false, false, ⟨none, 0, 0⟩, ⟨none, 0, 0⟩, 0⟩ : Mv) rfl).put 4 (.bool x.v) (⟨⟨a0, n0, c0⟩, ⟨a1, n1, c1⟩, x.n, x.z, x.v, false, ⟨none, 0, 0⟩, ⟨none, 0, 0⟩, 0⟩ : Mv) rfl).put 5 (.bool x.c) (⟨⟨a0, n0, c0⟩, ⟨a1, n1, c1⟩, x.n, x.z, x.v, x.c, ⟨none, 0, 0⟩, ⟨none, 0, 0⟩, 0⟩ : Mv) rfl)
 have R := hide ((((((uh Rn).set (uh Cn) (uh HR) 1 (.slice a1 n1 c1)).set ((uh Cn).put 1 (.slice a1 n1 c1) (⟨⟨a0, n0, c0⟩, ⟨a1, n1, c1⟩, false, false, false, false, ⟨none, 0, 0⟩, ⟨none, 0, 0⟩, 0⟩ : Mv) rfl) (uh HR) 2 (.bool x.n)).set (((uh Cn).put 1 (.slice a1 n1 c1) (⟨⟨a0, n0, c0⟩, ⟨a1, n1, c1⟩, false, false, false, false, ⟨none, 0, 0⟩, ⟨none, 0, 0⟩, 0⟩ : Mv) rfl).put 2 (.bool x.n) (⟨⟨a0, n0, c0⟩, ⟨a1, n1, c1⟩, x.n, false, false, false, ⟨none, 0, 0⟩, ⟨none, 0, 0⟩, 0⟩ : Mv) rfl) (uh HR) 3 (.bool x.z)).set ((((uh Cn).put 1 (.slice a1 n1 c1) (⟨⟨a0, n0, c0⟩, ⟨a1, n1, c1⟩, false, false, false, false, ⟨none, 0, 0⟩, ⟨none, 0, 0⟩, 0⟩ : Mv) rfl).put 2 (.bool x.n) (⟨⟨a0, n0, c0⟩, ⟨a1, n1, c1⟩, x.n, false, false, false, ⟨none, 0, 0⟩, ⟨none, 0, 0⟩, 0⟩ : Mv) rfl).put 3 (.bool x.z) (⟨⟨a0, n0, c0⟩, ⟨a1, n1, c1⟩, x.n, x.z, false, false, ⟨none, 0, 0⟩, ⟨none, 0, 0⟩, 0⟩ : Mv) rfl) (uh HR) 4 (.bool x.v)).set (((((uh Cn).put 1 (.slice a1 n1 c1) (⟨⟨a0, n0, c0⟩, ⟨a1, n1, c1⟩, false, false, false, false, ⟨none, 0, 0⟩, ⟨none, 0, 0⟩, 0⟩ : Mv) rfl).put 2 (.bool x.n) (⟨⟨a0, n0, c0⟩, ⟨a1, n1, c1⟩, x.n, false, false, false, ⟨none, 0, 0⟩, ⟨none, 0, 0⟩, 0⟩ : Mv) rfl).put 3 (.bool x.z) (⟨⟨a0, n0, c0⟩, ⟨a1, n1, c1⟩, x.n, x.z, false, false, ⟨none, 0, 0⟩, ⟨none, 0, 0⟩, 0⟩ : Mv) rfl).put 4 (.bool x.v) (⟨⟨a0, n0, c0⟩, ⟨a1, n1, c1⟩, x.n, x.z, x.v, false, ⟨none, 0, 0⟩, ⟨none, 0, 0⟩, 0⟩ : Mv) rfl) (uh HR) 5 (.bool x.c))
 have On := hide ((((((uh O0).put (b := w.heap.size + 1 + 1) (j := 1) (u := .slice a1 n1 c1) (by omega)).put (b := w.heap.size + 1 + 1) (j := 2) (u := .bool x.n) (by omega)).put (b := w.heap.size + 1 + 1) (j := 3) (u := .bool x.z) (by omega)).put (b := w.heap.size + 1 + 1) (j := 4) (u := .bool x.v) (by omega)).put (b := w.heap.size + 1 + 1) (j := 5) (u := .bool x.c) (by omega))
 clear O0
 have O0 := hide (uh On)
 clear On
 have On := hide ((((((uh O1).put (b := w.heap.size + 1 + 1) (j := 1) (u := .slice a1 n1 c1) (by omega)).put (b := w.heap.size + 1 + 1) (j := 2) (u := .bool x.n) (by omega)).put (b := w.heap.size + 1 + 1) (j := 3) (u := .bool x.z) (by omega)).put (b := w.heap.size + 1 + 1) (j := 4) (u := .bool x.v) (by omega)).put (b := w.heap.size + 1 + 1) (j := 5) (u := .bool x.c) (by omega))
 clear O1
 have O1 := hide (uh On)
 clear On
 have T := hide (toIntS_any x.i.a x.i.n x.i.c d.i _ (uh R).il s2 (uh R).i)
 clear Cn Rn
 go_wp2_with fail
 refine (uh T).mono ?_
 rintro e w2 ⟨v, rfl, own, bel⟩
 obtain ⟨a2, n2, c2, rfl⟩ : ∃ a n c, v = .slice a n c := by obtain ⟨a, c, e, _⟩ := own.rd; exact ⟨_, _, _, e⟩
 have Cn := hide ((uh C).later bel)
 have Rn := hide ((uh R).later bel)
 have O2 := hide (OwnN.base own (B' := w.heap.size + 3) (uh C).sz)
 have On := hide ((uh O0).later bel)
 have A02 : Hid (Ap ⟨a0, n0, c0⟩ ⟨a2, n2, c2⟩) := hide (ap_of (uh O0) own (Nat.le_refl _))
 clear O0
 have O0 := hide (uh On)
 clear On
 have On := hide ((uh O1).later bel)
 have A12 : Hid (Ap ⟨a1, n1, c1⟩ ⟨a2, n2, c2⟩) := hide (ap_of (uh O1) own (Nat.le_refl _))
 clear O1
 have O1 := hide (uh On)
 clear On
 clear own bel T C R
 have o6 := row_i (uh Cn).out
 have f6 := row_fz (uh Cn).out 6
 have b7 := row_o (uh Cn).bx
 have C := hide ((uh Cn).put 6 (.slice a2 n2 c2) (⟨⟨a0, n0, c0⟩, ⟨a1, n1, c1⟩, x.n, x.z, x.v, x.c, ⟨a2, n2, c2⟩, ⟨none, 0, 0⟩, 0⟩ : Mv) rfl)
 have R := hide ((uh Rn).set (uh Cn) (uh HR) 6 (.slice a2 n2 c2))
 have On := hide ((uh O0).put (b := w.heap.size + 1 + 1) (j := 6) (u := .slice a2 n2 c2) (by omega))
 clear O0
 have O0 := hide (uh On)
 clear On
 have On := hide ((uh O1).put (b := w.heap.size + 1 + 1) (j := 6) (u := .slice a2 n2 c2) (by omega))
 clear O1
 have O1 := hide (uh On)
 clear On
 have On := hide ((uh O2).put (b := w.heap.size + 1 + 1) (j := 6) (u := .slice a2 n2 c2) (by omega))
 clear O2
 have O2 := hide (uh On)
 clear On
 have T := hide (toIntS_any x.o.a x.o.n x.o.c d.o _ (uh R).ol s3 (uh R).o)
 clear Cn Rn
 go_wp2_with fail
 refine (uh T).mono ?_
 rintro e w3 ⟨v, rfl, own, bel⟩
 obtain ⟨a3, n3, c3, rfl⟩ : ∃ a n c, v = .slice a n c := by obtain ⟨a, c, e, _⟩ := own.rd; exact ⟨_, _, _, e⟩
 have Cn := hide ((uh C).later bel)
 have Rn := hide ((uh R).later bel)
 have O3 := hide (OwnN.base own (B' := w.heap.size + 3) (uh C).sz)
 have On := hide ((uh O0).later bel)
 have A03 : Hid (Ap ⟨a0, n0, c0⟩ ⟨a3, n3, c3⟩) := hide (ap_of (uh O0) own (Nat.le_refl _))
 clear O0
 have O0 := hide (uh On)
 clear On
 have On := hide ((uh O1).later bel)
 have A13 : Hid (Ap ⟨a1, n1, c1⟩ ⟨a3, n3, c3⟩) := hide (ap_of (uh O1) own (Nat.le_refl _))
 clear O1
 have O1 := hide (uh On)
 clear On
 have On := hide ((uh O2).later bel)
 have A23 : Hid (Ap ⟨a2, n2, c2⟩ ⟨a3, n3, c3⟩) := hide (ap_of (uh O2) own (Nat.le_refl _))
 clear O2
 have O2 := hide (uh On)
 clear On
 clear own bel T C R
 have o7 := row_o (uh Cn).out
 have f7 := row_fz (uh Cn).out 7
 have o8 := row_st (uh Cn).out
 have f8 := row_fz (uh Cn).out 8
 have b8 := row_st (uh Cn).bx
 have C := hide (((uh Cn).put 7 (.slice a3 n3 c3) (⟨⟨a0, n0, c0⟩, ⟨a1, n1, c1⟩, x.n, x.z, x.v, x.c, ⟨a2, n2, c2⟩, ⟨a3, n3, c3⟩, 0⟩ : Mv) rfl).put 8 (.int .i64 x.st) (⟨⟨a0, n0, c0⟩, ⟨a1, n1, c1⟩, x.n, x.z, x.v, x.c, ⟨a2, n2, c2⟩, ⟨a3, n3, c3⟩, x.st⟩ : Mv) rfl)
 have On := hide (((uh O0).put (b := w.heap.size + 1 + 1) (j := 7) (u := .slice a3 n3 c3) (by omega)).put (b := w.heap.size + 1 + 1) (j := 8) (u := .int .i64 x.st) (by omega))
 clear O0
 have O0 := hide (uh On)
 clear On
 have On := hide (((uh O1).put (b := w.heap.size + 1 + 1) (j := 7) (u := .slice a3 n3 c3) (by omega)).put (b := w.heap.size + 1 + 1) (j := 8) (u := .int .i64 x.st) (by omega))
 clear O1
 have O1 := hide (uh On)
 clear On
 have On := hide (((uh O2).put (b := w.heap.size + 1 + 1) (j := 7) (u := .slice a3 n3 c3) (by omega)).put (b := w.heap.size + 1 + 1) (j := 8) (u := .int .i64 x.st) (by omega))
 clear O2
 have O2 := hide (uh On)
 clear On
 have On := hide (((uh O3).put (b := w.heap.size + 1 + 1) (j := 7) (u := .slice a3 n3 c3) (by omega)).put (b := w.heap.size + 1 + 1) (j := 8) (u := .int .i64 x.st) (by omega))
 clear O3
 have O3 := hide (uh On)
 clear On
 clear Cn Rn
 go_wp2_with (first | (refine wpList_load_row rfl 26 _ rfl (w.heap.size + 1 + 1) rfl 26 (Mv.cs (⟨⟨a0, n0, c0⟩, ⟨a1, n1, c1⟩, x.n, x.z, x.v, x.c, ⟨a2, n2, c2⟩, ⟨a3, n3, c3⟩, x.st⟩ : Mv)) (0, 0) _ (uh C).out Tryz.underlying26 rfl (by kernel_rfl) ?_) | (refine wpList_store_row rfl 26 _ _ rfl (w.heap.size + 1) (Mv.cs (⟨⟨a0, n0, c0⟩, ⟨a1, n1, c1⟩, x.n, x.z, x.v, x.c, ⟨a2, n2, c2⟩, ⟨a3, n3, c3⟩, x.st⟩ : Mv)) rfl rfl 26 zMv.cs (uh C).re (by kernel_rfl) rfl (Mv.cs_one _) ?_))
 refine bodyPost_ret (results_cell_row (P := Tryz.prog) rfl _ _ (w.heap.size + 1) 26 (Mv.cs (⟨⟨a0, n0, c0⟩, ⟨a1, n1, c1⟩, x.n, x.z, x.v, x.c, ⟨a2, n2, c2⟩, ⟨a3, n3, c3⟩, x.st⟩ : Mv)) (0, 0) _ rfl (uh C).done.re Tryz.underlying26 rfl (by kernel_rfl)) rfl ?_
 exact ⟨(⟨⟨a0, n0, c0⟩, ⟨a1, n1, c1⟩, x.n, x.z, x.v, x.c, ⟨a2, n2, c2⟩, ⟨a3, n3, c3⟩, x.st⟩ : Mv), rfl, rfl, ⟨(uh O0).row (by omega) _, (uh O1).row (by omega) _, (uh O2).row (by omega) _, (uh O3).row (by omega) _, uh A01, uh A02, uh A03, uh A12, uh A13, uh A23⟩, (uh C).done.bel⟩
end
theorem i64_and65535 (n : Int) : bits .and .i64 n 65535 = n % 65536 := by
 have h127 : (BitVec.ofInt 64 65535).toNat = 2 ^ 16 - 1 := by decide
 have key : (BitVec.ofInt 64 n &&& BitVec.ofInt 64 65535).toNat = (n % ((2 ^ 64 : Nat) : Int)).toNat % 2 ^ 16 := by
  rw [BitVec.toNat_and, BitVec.toNat_ofInt, h127, Nat.and_two_pow_sub_one_eq_mod]
 show IntKind.i64.wrap ((BitVec.ofInt 64 n &&& BitVec.ofInt 64 65535).toNat : Nat) = n % 65536
 rw [key, IntKind.wrap_i64]
 omega
theorem ret_int {k : IntKind} {a b : Int} (h : a = b) : Ending.returned (.int k a) = .returned (.int k b) := by rw [h]
theorem ret_bool {a b : Bool} (h : a = b) : Ending.returned (.bool a) = .returned (.bool b) := by rw [h]
theorem wrapI_any (n : Int) (w : World) : Calls Tryz.prog 63 #[.int .i64 n] w fun e w' => e = .returned (.int .i64 (n % 65536)) ∧ w' = w := by
 go_enter Tryz.func63, Tryz.ntmps63
 go_wp2
 go_ret
 exact ⟨ret_int (i64_and65535 n), rfl⟩
theorem wrapS_any (n : Int) (w : World) : Calls Tryz.prog 24 #[.int .i64 n] w fun e w' => e = .returned (.int .i64 (n % 65536)) ∧ w' = w := by
 go_enter Tryz.func24, Tryz.ntmps24
 go_wp2
 go_ret
 exact ⟨ret_int (i64_and65535 n), rfl⟩
theorem isWord_eq (n : Int) : (n == n % 65536) = inB n 0 65535 := by
 unfold inB
 rw [Bool.eq_iff_iff]
 simp
 omega
theorem isWord_any (n : Int) (w : World) : Calls Tryz.prog 62 #[.int .i64 n] w fun e w' => e = .returned (.bool (inB n 0 65535)) ∧ w' = w := by
 rw [← isWord_eq]
 obtain ⟨q, hq⟩ : ∃ q, n % 65536 = q := ⟨_, rfl⟩
 have W := hide (fun w => hq ▸ wrapI_any n w)
 rw [hq]
 clear hq
 go_enter Tryz.func62, Tryz.ntmps62
 go_wp2_with (go_at_call 63; refine (uh W _).mono ?_; rintro e w' ⟨rfl, rfl⟩)
 go_ret
 exact ⟨rfl, rfl⟩
def wdB (ns : List Int) : Bool := ns.all fun x => inB x 0 65535
theorem wdB_snoc (ns : List Int) (k : Nat) (h : k < ns.length) : wdB (ns.take (k + 1)) = (wdB (ns.take k) && inB (nAt ns k) 0 65535) := by
 rw [take_nAt ns k h]; simp [wdB]
theorem wdB_no (ns : List Int) (k : Nat) (h : k < ns.length) (hb : inB (nAt ns k) 0 65535 = false) : wdB ns = false := by
 unfold wdB
 rw [List.all_eq_false]
 refine ⟨nAt ns k, ?_, by simp [hb]⟩
 unfold nAt
 rw [List.getD_eq_getElem?_getD, List.getElem?_eq_getElem h]
 exact List.getElem_mem _
theorem wordsS_any (a : Option Addr) (len cap : Nat) (ns : List Int) (w : World) (hl : ns.length = len) (hm : len ≤ 1099511627776) (hr : RdN w a ns) :
  Calls Tryz.prog 21 #[.slice a len cap] w fun e w' => e = .returned (.bool (wdB ns)) ∧ w' = w := by
 go_enter Tryz.func21, Tryz.ntmps21
 go_wp2
 go_loop [3] (fun i => ∃ k : Nat, k ≤ len ∧ wdB (ns.take k) = true ∧ i = .int .i64 k) (fun i => len - (intOf i).toNat)
 case atStart => exact ⟨0, Nat.zero_le _, rfl, rfl⟩
 case round =>
  obtain ⟨k, hk, hw, rfl⟩ := hrel
  by_cases hlt : k < len
  ·
   rcases hr with rfl | ⟨b, off, rfl, hb, hc⟩
   · simp at hl; omega
   have hcx := hc k (by omega)
   have HW := hide (wdB_snoc ns k (by omega))
   have HN := hide (wdB_no ns k (by omega))
   have HK := hide hw
   clear hc hw
   generalize nAt ns k = x at hcx HW HN ⊢
   have I1 := hide (fun w => in_any x 0 65535 w)
   obtain ⟨q, hq⟩ : ∃ q, inB x 0 65535 = q := ⟨_, rfl⟩
   rw [hq] at HW HN I1
   clear hq
   cases q
   ·
    go_wp2_with (go_at_call 13; refine (uh I1 _).mono ?_; rintro e w' ⟨rfl, hw'⟩; rw [hw']; clear hw' w')
    go_ret
    exact ⟨ret_bool (uh HN (by trivial)).symm, rfl⟩
   ·
    go_wp2_with (go_at_call 13; refine (uh I1 _).mono ?_; rintro e w' ⟨rfl, hw'⟩; rw [hw']; clear hw' w')
    go_round
    case rel => exact ⟨k + 1, by omega, by rw [uh HW, uh HK]; rfl, by go_num⟩
    case measure => simp [intOf]; omega
  ·
   have HK := hide hw
   clear hw
   go_wp2
   go_ret
   have := uh HK
   rw [List.take_of_length_le (by omega)] at this
   exact ⟨ret_bool this.symm, rfl⟩
theorem wordsI_any (a : Option Addr) (len cap : Nat) (ns : List Int) (w : World) (hl : ns.length = len) (hm : len ≤ 1099511627776) (hr : RdN w a ns) :
  Calls Tryz.prog 54 #[.slice a len cap] w fun e w' => e = .returned (.bool (wdB ns)) ∧ w' = w := by
 go_enter Tryz.func54, Tryz.ntmps54
 go_wp2
 go_loop [4, 7] (fun _ i => ∃ k : Nat, k ≤ len ∧ wdB (ns.take k) = true ∧ i = .int .i64 k) (fun _ i => len - (intOf i).toNat)
 case atStart => exact ⟨0, Nat.zero_le _, rfl, rfl⟩
 case round =>
  obtain ⟨k, hk, hw, rfl⟩ := hrel
  by_cases hlt : k < len
  ·
   rcases hr with rfl | ⟨b, off, rfl, hb, hc⟩
   · simp at hl; omega
   have hcx := hc k (by omega)
   have HW := hide (wdB_snoc ns k (by omega))
   have HN := hide (wdB_no ns k (by omega))
   have HK := hide hw
   clear hc hw
   generalize nAt ns k = x at hcx HW HN ⊢
   have I1 := hide (fun w => isWord_any x w)
   obtain ⟨q, hq⟩ : ∃ q, inB x 0 65535 = q := ⟨_, rfl⟩
   rw [hq] at HW HN I1
   clear hq
   cases q
   ·
    go_wp2_with (go_at_call 62; refine (uh I1 _).mono ?_; rintro e w' ⟨rfl, hw'⟩; rw [hw']; clear hw' w')
    go_ret
    exact ⟨ret_bool (uh HN (by trivial)).symm, rfl⟩
   ·
    go_wp2_with (go_at_call 62; refine (uh I1 _).mono ?_; rintro e w' ⟨rfl, hw'⟩; rw [hw']; clear hw' w')
    go_round
    case rel => exact ⟨k + 1, by omega, by rw [uh HW, uh HK]; rfl, by go_num⟩
    case measure => simp [intOf]; omega
  ·
   have HK := hide hw
   clear hw
   go_wp2
   go_ret
   have := uh HK
   rw [List.take_of_length_le (by omega)] at this
   exact ⟨ret_bool this.symm, rfl⟩
structure Tw (w wr : World) (x y : Mv) : Prop where
 bx : wr.heap[w.heap.size]? = some (.cells x.cs 26 (0, 0))
 by' : wr.heap[w.heap.size + 1]? = some (.cells y.cs 26 (0, 0))
 bel : Below w.heap.size w wr
theorem Tw.later {w wr w' : World} {x y : Mv} (h : Tw w wr x y) (hb : Below wr.heap.size wr w') : Tw w w' x y :=
 ⟨row_lat h.bx hb, row_lat h.by' hb, h.bel.trans (hb.mono (by have := h.bel.size; omega))⟩
theorem tw_new (w : World) (x y : Mv) : Tw w ((w.alloc (.cells x.cs 26)).alloc (.cells y.cs 26)) x y := by
 have z1 : (w.alloc (.cells x.cs 26)).heap.size = w.heap.size + 1 := by simp
 have a1 := row_lat (heap_alloc_last w (.cells x.cs 26)) ((Below.refl _ _).alloc (Nat.le_refl _) (.cells y.cs 26))
 have a2 := heap_alloc_last (w.alloc (.cells x.cs 26)) (.cells y.cs 26)
 rw [z1] at a2
 exact ⟨a1, a2, ((Below.refl _ _).alloc (Nat.le_refl _) _).alloc (by omega) _⟩
theorem eqM_any (x y : Mv) (d : Md) (w : World) (hf : y.fl = x.fl) (hs : x.small) (hx : RdM w x d) (hy : RdM w y d) : Calls Tryz.prog 8 #[.agg x.cs, .agg y.cs] w fun e w' => e = .returned (.bool true) ∧ Below w.heap.size w w' := by
 have T := hide (tw_new w x y)
 have X := hide (hx.later (uh T).bel)
 have Y := hide (hy.later (uh T).bel)
 have p0 : x.cs[0]? = some (.slice x.m.a x.m.n x.m.c) := rfl
 have q0 : y.cs[0]? = some (.slice y.m.a x.m.n y.m.c) := by rw [← hx.ml, hy.ml]; rfl
 have E := hide (eqIntS_same x.m.a y.m.a x.m.n x.m.c y.m.c d.m _ hx.ml (by have := hs.1; omega) (uh X).m (uh Y).m)
 have F := hide hf
 have S := hide hs
 clear hf hs hx hy
 go_enter Tryz.func8, Tryz.ntmps8
 go_wp2_with fail
 refine (uh E).mono ?_
 rintro e w1 ⟨rfl, hb⟩
 have T1 := hide ((uh T).later hb)
 have X1 := hide ((uh X).later hb)
 have Y1 := hide ((uh Y).later hb)
 clear hb T X Y E p0 q0
 have p0 := row_r (uh T1).bx
 have q0 : w1.cell? ⟨w.heap.size + 1, 1, none⟩ = some (.slice y.r.a x.r.n y.r.c) := by rw [← (uh X1).rl, (uh Y1).rl]; exact row_r (uh T1).by'
 have E := hide (eqIntS_same x.r.a y.r.a x.r.n x.r.c y.r.c d.r _ (uh X1).rl (by have := (uh S).2.1; omega) (uh X1).r (uh Y1).r)
 go_wp2_with fail
 refine (uh E).mono ?_
 rintro e w2 ⟨rfl, hb⟩
 have T := hide ((uh T1).later hb)
 have X := hide ((uh X1).later hb)
 have Y := hide ((uh Y1).later hb)
 clear hb T1 X1 Y1 E p0 q0
 have p2 := row_n (uh T).bx
 have q2 := (row_n (uh T).by').trans (by rw [fl_n (uh F)])
 have p3 := row_z (uh T).bx
 have q3 := (row_z (uh T).by').trans (by rw [fl_z (uh F)])
 have p4 := row_v (uh T).bx
 have q4 := (row_v (uh T).by').trans (by rw [fl_v (uh F)])
 have p5 := row_c (uh T).bx
 have q5 := (row_c (uh T).by').trans (by rw [fl_c (uh F)])
 have p0 := row_i (uh T).bx
 have q0 : w2.cell? ⟨w.heap.size + 1, 6, none⟩ = some (.slice y.i.a x.i.n y.i.c) := by rw [← (uh X).il, (uh Y).il]; exact row_i (uh T).by'
 have E := hide (eqIntS_same x.i.a y.i.a x.i.n x.i.c y.i.c d.i _ (uh X).il (by have := (uh S).2.2.1; omega) (uh X).i (uh Y).i)
 go_wp2_with fail
 refine (uh E).mono ?_
 rintro e w3 ⟨rfl, hb⟩
 have T1 := hide ((uh T).later hb)
 have X1 := hide ((uh X).later hb)
 have Y1 := hide ((uh Y).later hb)
 clear hb T X Y E p0 q0 p2 q2 p3 q3 p4 q4 p5 q5
 have p0 := row_o (uh T1).bx
 have q0 : w3.cell? ⟨w.heap.size + 1, 7, none⟩ = some (.slice y.o.a x.o.n y.o.c) := by rw [← (uh X1).ol, (uh Y1).ol]; exact row_o (uh T1).by'
 have E := hide (eqIntS_same x.o.a y.o.a x.o.n x.o.c y.o.c d.o _ (uh X1).ol (by have := (uh S).2.2.2; omega) (uh X1).o (uh Y1).o)
 go_wp2_with fail
 refine (uh E).mono ?_
 rintro e w4 ⟨rfl, hb⟩
 have T := hide ((uh T1).later hb)
 clear hb T1 X1 Y1 E p0 q0
 have p8 := row_st (uh T).bx
 have q8 := (row_st (uh T).by').trans (by rw [fl_st (uh F)])
 go_wp2
 go_ret
 exact ⟨rfl, (uh T).bel⟩
def Md.ok (d : Md) (st : Int) : Bool :=
 ((d.m.length : Int) == 256) && (wdB d.m && (((d.r.length : Int) == 8) && (wdB d.r && (decide ((d.i.length : Int) ≤ 50) && (wdB d.i && (decide ((d.o.length : Int) ≤ 50) && (wdB d.o && inB st 0 2)))))))
theorem okS_any (x : Mv) (d : Md) (w : World) (hs : x.small) (hx : RdM w x d) : Calls Tryz.prog 14 #[.agg x.cs] w fun e w' => e = .returned (.bool (d.ok x.st)) ∧ Below w.heap.size w w' := by
 have HB := hide ((Below.refl w.heap.size w).alloc (Nat.le_refl _) (.cells x.cs 26))
 have X := hide (hx.later (uh HB))
 have W2 := hide (wordsS_any x.m.a x.m.n x.m.c d.m _ hx.ml (by have := hs.1; omega) (uh X).m)
 have W4 := hide (wordsS_any x.r.a x.r.n x.r.c d.r _ hx.rl (by have := hs.2.1; omega) (uh X).r)
 have W6 := hide (wordsS_any x.i.a x.i.n x.i.c d.i _ hx.il (by have := hs.2.2.1; omega) (uh X).i)
 have W8 := hide (wordsS_any x.o.a x.o.n x.o.c d.o _ hx.ol (by have := hs.2.2.2; omega) (uh X).o)
 have W9 := hide (fun w => in_any x.st 0 2 w)
 have c0 : x.cs[0]? = some (.slice x.m.a x.m.n x.m.c) := rfl
 have c1 : x.cs[1]? = some (.slice x.r.a x.r.n x.r.c) := rfl
 have c6 : x.cs[6]? = some (.slice x.i.a x.i.n x.i.c) := rfl
 have c7 : x.cs[7]? = some (.slice x.o.a x.o.n x.o.c) := rfl
 have c8 : x.cs[8]? = some (.int .i64 x.st) := rfl
 unfold Md.ok
 rw [hx.ml, hx.rl, hx.il, hx.ol]
 clear hx hs X
 generalize wdB d.m = b2 at W2 ⊢
 generalize wdB d.r = b4 at W4 ⊢
 generalize wdB d.i = b6 at W6 ⊢
 generalize wdB d.o = b8 at W8 ⊢
 generalize inB x.st 0 2 = b9 at W9 ⊢
 cases h1 : ((x.m.n : Int) == 256)
 ·
  go_enter Tryz.func14, Tryz.ntmps14
  go_wp2
  go_ret
  exact ⟨rfl, uh HB⟩
 cases b2
 ·
  go_enter Tryz.func14, Tryz.ntmps14
  go_wp2_with (first | (go_at_call_of 21 (Value.slice x.m.a x.m.n x.m.c); refine (uh W2).mono ?_; rintro e w' ⟨rfl, rfl⟩))
  go_ret
  exact ⟨rfl, uh HB⟩
 cases h3 : ((x.r.n : Int) == 8)
 ·
  go_enter Tryz.func14, Tryz.ntmps14
  go_wp2_with (first | (go_at_call_of 21 (Value.slice x.m.a x.m.n x.m.c); refine (uh W2).mono ?_; rintro e w' ⟨rfl, rfl⟩))
  go_ret
  exact ⟨rfl, uh HB⟩
 cases b4
 ·
  go_enter Tryz.func14, Tryz.ntmps14
  go_wp2_with (first | (go_at_call_of 21 (Value.slice x.m.a x.m.n x.m.c); refine (uh W2).mono ?_; rintro e w' ⟨rfl, rfl⟩) | (go_at_call_of 21 (Value.slice x.r.a x.r.n x.r.c); refine (uh W4).mono ?_; rintro e w' ⟨rfl, rfl⟩))
  go_ret
  exact ⟨rfl, uh HB⟩
 cases h5 : decide ((x.i.n : Int) ≤ 50)
 ·
  go_enter Tryz.func14, Tryz.ntmps14
  go_wp2_with (first | (go_at_call_of 21 (Value.slice x.m.a x.m.n x.m.c); refine (uh W2).mono ?_; rintro e w' ⟨rfl, rfl⟩) | (go_at_call_of 21 (Value.slice x.r.a x.r.n x.r.c); refine (uh W4).mono ?_; rintro e w' ⟨rfl, rfl⟩))
  go_ret
  exact ⟨rfl, uh HB⟩
 cases b6
 ·
  go_enter Tryz.func14, Tryz.ntmps14
  go_wp2_with (first | (go_at_call_of 21 (Value.slice x.m.a x.m.n x.m.c); refine (uh W2).mono ?_; rintro e w' ⟨rfl, rfl⟩) | (go_at_call_of 21 (Value.slice x.r.a x.r.n x.r.c); refine (uh W4).mono ?_; rintro e w' ⟨rfl, rfl⟩) | (go_at_call_of 21 (Value.slice x.i.a x.i.n x.i.c); refine (uh W6).mono ?_; rintro e w' ⟨rfl, rfl⟩))
  go_ret
  exact ⟨rfl, uh HB⟩
 cases h7 : decide ((x.o.n : Int) ≤ 50)
 ·
  go_enter Tryz.func14, Tryz.ntmps14
  go_wp2_with (first | (go_at_call_of 21 (Value.slice x.m.a x.m.n x.m.c); refine (uh W2).mono ?_; rintro e w' ⟨rfl, rfl⟩) | (go_at_call_of 21 (Value.slice x.r.a x.r.n x.r.c); refine (uh W4).mono ?_; rintro e w' ⟨rfl, rfl⟩) | (go_at_call_of 21 (Value.slice x.i.a x.i.n x.i.c); refine (uh W6).mono ?_; rintro e w' ⟨rfl, rfl⟩))
  go_ret
  exact ⟨rfl, uh HB⟩
 cases b8
 ·
  go_enter Tryz.func14, Tryz.ntmps14
  go_wp2_with (first | (go_at_call_of 21 (Value.slice x.m.a x.m.n x.m.c); refine (uh W2).mono ?_; rintro e w' ⟨rfl, rfl⟩) | (go_at_call_of 21 (Value.slice x.r.a x.r.n x.r.c); refine (uh W4).mono ?_; rintro e w' ⟨rfl, rfl⟩) | (go_at_call_of 21 (Value.slice x.i.a x.i.n x.i.c); refine (uh W6).mono ?_; rintro e w' ⟨rfl, rfl⟩) | (go_at_call_of 21 (Value.slice x.o.a x.o.n x.o.c); refine (uh W8).mono ?_; rintro e w' ⟨rfl, rfl⟩))
  go_ret
  exact ⟨rfl, uh HB⟩
 cases b9
 ·
  go_enter Tryz.func14, Tryz.ntmps14
  go_wp2_with (first | (go_at_call_of 21 (Value.slice x.m.a x.m.n x.m.c); refine (uh W2).mono ?_; rintro e w' ⟨rfl, rfl⟩) | (go_at_call_of 21 (Value.slice x.r.a x.r.n x.r.c); refine (uh W4).mono ?_; rintro e w' ⟨rfl, rfl⟩) | (go_at_call_of 21 (Value.slice x.i.a x.i.n x.i.c); refine (uh W6).mono ?_; rintro e w' ⟨rfl, rfl⟩) | (go_at_call_of 21 (Value.slice x.o.a x.o.n x.o.c); refine (uh W8).mono ?_; rintro e w' ⟨rfl, rfl⟩) | (go_at_call 13; refine (uh W9 _).mono ?_; rintro e w' ⟨rfl, rfl⟩))
  go_ret
  exact ⟨rfl, uh HB⟩
 go_enter Tryz.func14, Tryz.ntmps14
 go_wp2_with (first | (go_at_call_of 21 (Value.slice x.m.a x.m.n x.m.c); refine (uh W2).mono ?_; rintro e w' ⟨rfl, rfl⟩) | (go_at_call_of 21 (Value.slice x.r.a x.r.n x.r.c); refine (uh W4).mono ?_; rintro e w' ⟨rfl, rfl⟩) | (go_at_call_of 21 (Value.slice x.i.a x.i.n x.i.c); refine (uh W6).mono ?_; rintro e w' ⟨rfl, rfl⟩) | (go_at_call_of 21 (Value.slice x.o.a x.o.n x.o.c); refine (uh W8).mono ?_; rintro e w' ⟨rfl, rfl⟩) | (go_at_call 13; refine (uh W9 _).mono ?_; rintro e w' ⟨rfl, rfl⟩))
 go_ret
 exact ⟨rfl, uh HB⟩
theorem okI_any (x : Mv) (d : Md) (w : World) (hs : x.small) (hx : RdM w x d) : Calls Tryz.prog 40 #[.agg x.cs] w fun e w' => e = .returned (.bool (d.ok x.st)) ∧ Below w.heap.size w w' := by
 have HB := hide ((Below.refl w.heap.size w).alloc (Nat.le_refl _) (.cells x.cs 26))
 have X := hide (hx.later (uh HB))
 have W0 := hide (wordsI_any x.m.a x.m.n x.m.c d.m _ hx.ml (by have := hs.1; omega) (uh X).m)
 have W1 := hide (wordsI_any x.r.a x.r.n x.r.c d.r _ hx.rl (by have := hs.2.1; omega) (uh X).r)
 have W2 := hide (wordsI_any x.i.a x.i.n x.i.c d.i _ hx.il (by have := hs.2.2.1; omega) (uh X).i)
 have W3 := hide (wordsI_any x.o.a x.o.n x.o.c d.o _ hx.ol (by have := hs.2.2.2; omega) (uh X).o)
 have c0 : x.cs[0]? = some (.slice x.m.a x.m.n x.m.c) := rfl
 have c1 : x.cs[1]? = some (.slice x.r.a x.r.n x.r.c) := rfl
 have c6 : x.cs[6]? = some (.slice x.i.a x.i.n x.i.c) := rfl
 have c7 : x.cs[7]? = some (.slice x.o.a x.o.n x.o.c) := rfl
 have c8 : x.cs[8]? = some (.int .i64 x.st) := rfl
 unfold Md.ok
 rw [hx.ml, hx.rl, hx.il, hx.ol]
 clear hx hs X
 generalize wdB d.m = b0 at W0 ⊢
 generalize wdB d.r = b1 at W1 ⊢
 generalize wdB d.i = b2 at W2 ⊢
 generalize wdB d.o = b3 at W3 ⊢
 by_cases h1 : (x.m.n : Int) = 256
 rotate_left
 ·
  rw [show ((x.m.n : Int) == 256) = false by simpa using h1]
  go_enter Tryz.func40, Tryz.ntmps40
  go_wp2
  go_ret
  exact ⟨ret_bool (by simp), uh HB⟩
 rw [show ((x.m.n : Int) == 256) = true by simpa using h1]
 have g1 : 256 ≤ x.m.n ∧ x.m.n ≤ 256 := by omega
 obtain ⟨g1a, g1b⟩ := g1
 clear h1
 by_cases h2 : (x.r.n : Int) = 8
 rotate_left
 ·
  rw [show ((x.r.n : Int) == 8) = false by simpa using h2]
  go_enter Tryz.func40, Tryz.ntmps40
  go_wp2
  go_ret
  exact ⟨ret_bool (by simp), uh HB⟩
 rw [show ((x.r.n : Int) == 8) = true by simpa using h2]
 have g2 : 8 ≤ x.r.n ∧ x.r.n ≤ 8 := by omega
 obtain ⟨g2a, g2b⟩ := g2
 clear h2
 by_cases h3 : (x.i.n : Int) ≤ 50
 rotate_left
 ·
  rw [decide_eq_false h3]
  go_enter Tryz.func40, Tryz.ntmps40
  go_wp2
  go_ret
  exact ⟨ret_bool (by simp), uh HB⟩
 rw [decide_eq_true h3]
 by_cases h4 : (x.o.n : Int) ≤ 50
 rotate_left
 ·
  rw [decide_eq_false h4]
  go_enter Tryz.func40, Tryz.ntmps40
  go_wp2
  go_ret
  exact ⟨ret_bool (by simp), uh HB⟩
 rw [decide_eq_true h4]
 obtain ⟨B, hB⟩ : ∃ B : Nat → Bool, B = fun j => if j = 0 then b0 else if j = 1 then b1 else if j = 2 then b2 else b3 := ⟨_, rfl⟩
 have HBB := hide hB
 clear hB
 have ix0 : ∀ w, (Instr.index 78 (.agg #[Value.slice x.m.a x.m.n x.m.c, Value.slice x.r.a x.r.n x.r.c, Value.slice x.i.a x.i.n x.i.c, Value.slice x.o.a x.o.n x.o.c]) (.int .i64 0)).run Tryz.prog w = .ok (.slice x.m.a x.m.n x.m.c) w := fun w => by kernel_rfl
 have ix1 : ∀ w, (Instr.index 78 (.agg #[Value.slice x.m.a x.m.n x.m.c, Value.slice x.r.a x.r.n x.r.c, Value.slice x.i.a x.i.n x.i.c, Value.slice x.o.a x.o.n x.o.c]) (.int .i64 1)).run Tryz.prog w = .ok (.slice x.r.a x.r.n x.r.c) w := fun w => by kernel_rfl
 have ix2 : ∀ w, (Instr.index 78 (.agg #[Value.slice x.m.a x.m.n x.m.c, Value.slice x.r.a x.r.n x.r.c, Value.slice x.i.a x.i.n x.i.c, Value.slice x.o.a x.o.n x.o.c]) (.int .i64 2)).run Tryz.prog w = .ok (.slice x.i.a x.i.n x.i.c) w := fun w => by kernel_rfl
 have ix3 : ∀ w, (Instr.index 78 (.agg #[Value.slice x.m.a x.m.n x.m.c, Value.slice x.r.a x.r.n x.r.c, Value.slice x.i.a x.i.n x.i.c, Value.slice x.o.a x.o.n x.o.c]) (.int .i64 3)).run Tryz.prog w = .ok (.slice x.o.a x.o.n x.o.c) w := fun w => by kernel_rfl
 go_enter Tryz.func40, Tryz.ntmps40
 go_wp2
 go_loop [4, 36] (fun _ i => ∃ k : Nat, k ≤ 4 ∧ i = .int .i64 k ∧ ∀ j, j < k → B j = true) (fun _ i => 4 - (intOf i).toNat)
 case atStart => exact ⟨0, by omega, rfl, fun j h => by omega⟩
 case round =>
  obtain ⟨k, hk, rfl, hall⟩ := hrel
  by_cases hlt : k < 4
  ·
   have HA := hide hall
   clear hall
   obtain rfl | rfl | rfl | rfl : k = 0 ∨ k = 1 ∨ k = 2 ∨ k = 3 := by omega
   ·
    have hBk : Hid (B 0 = b0) := by rw [show B = _ from uh HBB]; rfl
    cases b0
    ·
     go_wp2_with (go_at_call 54; refine (uh W0).mono ?_; rintro e w' ⟨rfl, rfl⟩)
     go_ret
     exact ⟨ret_bool (by simp), uh HB⟩
    ·
     go_wp2_with (go_at_call 54; refine (uh W0).mono ?_; rintro e w' ⟨rfl, rfl⟩)
     go_round
     case rel => exact ⟨1, by omega, by go_num, fun j hj => by
      by_cases e : j = 0
      · rw [e]; exact uh hBk
      · exact uh HA j (by omega)⟩
     case measure => simp [intOf]
   ·
    have hBk : Hid (B 1 = b1) := by rw [show B = _ from uh HBB]; rfl
    cases b1
    ·
     go_wp2_with (go_at_call 54; refine (uh W1).mono ?_; rintro e w' ⟨rfl, rfl⟩)
     go_ret
     exact ⟨ret_bool (by simp), uh HB⟩
    ·
     go_wp2_with (go_at_call 54; refine (uh W1).mono ?_; rintro e w' ⟨rfl, rfl⟩)
     go_round
     case rel => exact ⟨2, by omega, by go_num, fun j hj => by
      by_cases e : j = 1
      · rw [e]; exact uh hBk
      · exact uh HA j (by omega)⟩
     case measure => simp [intOf]
   ·
    have hBk : Hid (B 2 = b2) := by rw [show B = _ from uh HBB]; rfl
    cases b2
    ·
     go_wp2_with (go_at_call 54; refine (uh W2).mono ?_; rintro e w' ⟨rfl, rfl⟩)
     go_ret
     exact ⟨ret_bool (by simp), uh HB⟩
    ·
     go_wp2_with (go_at_call 54; refine (uh W2).mono ?_; rintro e w' ⟨rfl, rfl⟩)
     go_round
     case rel => exact ⟨3, by omega, by go_num, fun j hj => by
      by_cases e : j = 2
      · rw [e]; exact uh hBk
      · exact uh HA j (by omega)⟩
     case measure => simp [intOf]
   ·
    have hBk : Hid (B 3 = b3) := by rw [show B = _ from uh HBB]; rfl
    cases b3
    ·
     go_wp2_with (go_at_call 54; refine (uh W3).mono ?_; rintro e w' ⟨rfl, rfl⟩)
     go_ret
     exact ⟨ret_bool (by simp), uh HB⟩
    ·
     go_wp2_with (go_at_call 54; refine (uh W3).mono ?_; rintro e w' ⟨rfl, rfl⟩)
     go_round
     case rel => exact ⟨4, by omega, by go_num, fun j hj => by
      by_cases e : j = 3
      · rw [e]; exact uh hBk
      · exact uh HA j (by omega)⟩
     case measure => simp [intOf]
  ·
   obtain rfl : k = 4 := by omega
   have e := uh HBB
   have a0 := hall 0 (by omega)
   have a1 := hall 1 (by omega)
   have a2 := hall 2 (by omega)
   have a3 := hall 3 (by omega)
   rw [show B = _ from e] at a0 a1 a2 a3
   simp only [↓reduceIte, Nat.reduceEqDiff, Nat.one_ne_zero] at a0 a1 a2 a3
   subst a0 a1 a2 a3
   clear e hall HBB
   by_cases s0 : x.st = 0
   ·
    have e0 : (x.st == 0) = true := by simpa using s0
    have F : inB x.st 0 2 = true := by unfold inB; simp; omega
    have HF := hide F
    clear F s0
    go_wp2
    go_ret
    exact ⟨ret_bool (by simp [uh HF]), uh HB⟩
   have e0 : (x.st == 0) = false := by simpa using s0
   by_cases s1 : x.st = 1
   ·
    have e1 : (x.st == 1) = true := by simpa using s1
    have F : inB x.st 0 2 = true := by unfold inB; simp; omega
    have HF := hide F
    clear F s0 s1
    go_wp2
    go_ret
    exact ⟨ret_bool (by simp [uh HF]), uh HB⟩
   have e1 : (x.st == 1) = false := by simpa using s1
   have F : inB x.st 0 2 = (x.st == 2) := by unfold inB; rw [Bool.eq_iff_iff]; simp; omega
   cases e2 : (x.st == 2)
   all_goals rw [e2] at F
   all_goals have HF := hide F
   all_goals clear F s0 s1
   ·
    go_wp2
    go_ret
    exact ⟨ret_bool (by simp [uh HF]), uh HB⟩
   ·
    go_wp2
    go_ret
    exact ⟨ret_bool (by simp [uh HF]), uh HB⟩
structure Lw (W wr : World) (x : Mv) (e : Md) : Prop where
 bx : wr.heap[W.heap.size]? = some (.cells x.cs 24 (0, 0))
 rd : RdM wr x e
 bel : Below W.heap.size W wr
theorem Lw.later {W wr w' : World} {x : Mv} {e : Md} (h : Lw W wr x e) (hb : Below wr.heap.size wr w') : Lw W w' x e :=
 ⟨row_lat h.bx hb, h.rd.later hb, h.bel.trans (hb.mono (by have := h.bel.size; omega))⟩
theorem Lw.lt {W wr : World} {x : Mv} {e : Md} (h : Lw W wr x e) : W.heap.size < wr.heap.size := row_lt h.bx
theorem lw_new {W : World} {x : Mv} {e : Md} (h : RdM W x e) : Lw W (W.alloc (.cells x.cs 24)) x e :=
 ⟨heap_alloc_last W _, h.later ((Below.refl _ _).alloc (Nat.le_refl _) _), (Below.refl _ _).alloc (Nat.le_refl _) _⟩
theorem below_new (w : World) (o : Obj) : Below w.heap.size w (w.alloc o) := (Below.refl _ _).alloc (Nat.le_refl _) _
theorem below_drew {w : World} : Below w.heap.size w w.drew := ⟨rfl, rfl, rfl, Nat.le_refl _, fun _ _ => rfl⟩
theorem wpList_store_new {P : Program} {ops : Array Oper} {rest : List Oper} {o : Oper} {a : Act} {w : World} {Q : Exit → Act → World → Prop} (hgd : o.guard = none) (ty : TypeId) (x y : Operand) (ho : o.op = .store ty x y)
  (cells : Array Value) (hx : a.eval x = .pointer (some ⟨w.heap.size, 0, none⟩)) (hy : a.eval y = .agg cells) (old : Array Value) (hi : (P.info? ty).map (·.size) = some cells.size)
  (hold : old.size = cells.size) (h1 : cells.all (·.oneCell') = true) (h : wpList P ops Q rest (a.put o.dst undef) (w.alloc (.cells cells ty))) : wpList P ops Q (o :: rest) a (w.alloc (.cells old ty)) :=
 wpList_store_row hgd ty x y ho w.heap.size cells hx hy ty old (heap_alloc_last w _) hi hold h1 (by rw [World.setRow_alloc_new]; exact h)
theorem yields_load {P : Program} {ops : Array Oper} {S : World → Prop} {o : Oper} {a : Act} (hgd : o.guard = none) (ty : TypeId) (x : Operand) (ho : o.op = .load ty x) (g : Nat) (hx : a.eval x = .pointer (some ⟨g, 0, none⟩)) (t : TypeId) (cs : Array Value) (d : TypeDesc)
  (hS : ∀ w, S w → w.heap[g]? = some (.cells cs t (0, 0))) (hu : P.underlying ty = some d) (hd : (match d with | .struct _ | .array _ _ => true | _ => false) = true) (hi : (P.info? ty).map (·.size) = some cs.size) : YieldsIf P ops S o (.agg cs) a := by
 refine .inl ⟨by simp [Region.wanted, hgd], fun w hw => ?_⟩
 simp only [execOp, ho, hx, Instr.loadAt, Instr.sureAddr, Sem.run_bind, Sem.run_pure, Result.andThen_ok, run_loadVar_row w g t ty cs (0, 0) d (hS w hw) hu hd hi]
section
theorem info_parts {P : Program} {t : TypeId} {z : Option Value} {s b : Nat} (h : (P.info? t).map (fun i => (i.zero, i.size, i.bytes)) = some (z, s, b)) : ∃ i, P.info? t = some i ∧ i.zero = z ∧ i.size = s ∧ i.bytes = b := by
 cases hq : P.info? t with
 | none => simp [hq] at h
 | some i => simp [hq] at h; exact ⟨i, rfl, h⟩
def Sl.nz (s : Sl) : Prop := s.a = none → s.c = 0
def Mv.nz (x : Mv) : Prop := x.m.nz ∧ x.r.nz ∧ x.i.nz ∧ x.o.nz
theorem OwnN.nz {w : World} {B : Nat} {s : Sl} {ns : List Int} (h : OwnN w B s.v ns) : s.nz := by
 obtain ⟨a, c, e, _, _, _, _, h0⟩ := h.rd
 obtain ⟨sa, sn, sc⟩ := s
 unfold Sl.v at e
 simp at e
 obtain ⟨rfl, _, rfl⟩ := e
 exact h0
theorem OwnM.nz {w : World} {B : Nat} {x : Mv} {d : Md} (h : OwnM w B x d) : x.nz := ⟨h.m.nz, h.r.nz, h.i.nz, h.o.nz⟩
theorem rdN_cells {w : World} {ad : Addr} {ns : List Int} (h : RdN w (some ad) ns) : ∀ j u, (cellsN ns)[j]? = some u → w.cell? (ad.add j) = some u := by
 intro j u hu
 simp only [cellsN, List.getElem?_map, Option.map_eq_some_iff] at hu
 obtain ⟨y, hy, rfl⟩ := hu
 have hj := (List.getElem?_eq_some_iff.1 hy).1
 rcases h with rfl | ⟨b, off, ha, hb, hc⟩
 · simp at hj
 ·
  cases ha
  have := hc j hj
  have e : nAt ns j = y := by unfold nAt; rw [List.getD_eq_getElem?_getD, hy]; rfl
  rw [e] at this
  unfold Addr.add
  by_cases h0 : j = 0
  · subst h0; simpa using this
  · simpa [h0] using this
theorem wpList_app {w : World} {ops : Array Oper} {rest : List Oper} {o : Oper} {a : Act} {Q : Exit → Act → World → Prop} (hgd : o.guard = none) (p q : Operand) (ho : o.op = .call { callee := .builtin .append, args := #[p, q], argTypes := #[22, 22] })
  (B : Nat) (v : Value) (xs : List Int) (hs : a.eval p = v) (hown : OwnN w B v xs) (s : Sl) (ns : List Int) (hx : a.eval q = .slice s.a s.n s.c) (hr : RdN w s.a ns) (hl : ns.length = s.n) (hz : s.nz) (hm : xs.length + s.n ≤ 4194304) (hB : B ≤ w.heap.size)
  (h : ∀ v' w', OwnN w' B v' (xs ++ ns) → w.grownBy w' v.ownBlock → wpList Tryz.prog ops Q rest (a.put o.dst v') w') : wpList Tryz.prog ops Q (o :: rest) a w := by
 obtain ⟨i0, hi, hz0, hz1, hz2⟩ := info_parts info3
 obtain ⟨sa, sn, sc⟩ := s
 simp only at hx hr hl hm
 cases sa with
 | none =>
  have h0 : ns = [] := by
   rcases hr with h0 | ⟨_, _, e, _⟩
   · exact h0
   · cases e
  subst h0
  have hn : sn = 0 := by simp at hl; omega
  have hc : sc = 0 := hz rfl
  subst hn hc
  refine wpList_append_own_none hgd p q 22 ho B 3 i0 1 Tryz.underlying22 hi v xs.length (cellsN xs) hs hown hx ?_
  exact h v w (by rw [List.append_nil]; exact hown) (World.grownBy.refl _ _)
 | some ad =>
  refine wpList_append_own _ hgd p q 22 ho B 3 i0 (.int .i64 0) 1 8 Tryz.underlying22 hi hz0 hz1 hz2 rfl (by decide) v xs.length (cellsN xs) hs hown ad sn sc (cellsN ns) hx (by rw [cellsN_length]; omega) (rdN_cells hr) (cellsN_one _) (by unfold maxLen; omega) (by omega) hB ?_
  intro v' w' ho' hg _
  refine h v' w' ?_ hg
  unfold OwnN
  rw [cellsN_append, List.length_append, hl]
  exact ho'
theorem below_grown {w w' : World} (hg : w.grownBy w' none) : Below w.heap.size w w' := ⟨hg.os, hg.tape, hg.output, hg.size, fun k hk => hg.block k hk (by simp)⟩
theorem copyN_any (s : Sl) (ns : List Int) (w : World) (hr : RdN w s.a ns) (hl : ns.length = s.n) (hz : s.nz) (hm : s.n ≤ 1048576) :
  Calls Tryz.prog 39 #[.slice s.a s.n s.c] w fun e w' => ∃ v, e = .returned v ∧ OwnN w' w.heap.size v ns ∧ Below w.heap.size w w' := by
 go_enter Tryz.func39, Tryz.ntmps39
 go_wp2_with (at_builtin; refine wpList_app rfl _ _ rfl w.heap.size (.slice none 0 0) [] rfl (ownN_none _ _) s ns rfl hr hl hz (by simp; omega) (Nat.le_refl _) ?_; intro v' w' ho hg; have HO := hide ho; have HG := hide hg; clear ho hg)
 go_ret
 exact ⟨_, rfl, uh HO, below_grown (uh HG)⟩
structure Cc (w wr : World) (x : Mv) : Prop where
 bx : wr.heap[w.heap.size]? = some (.cells x.cs 26 (0, 0))
 re : wr.heap[w.heap.size + 1]? = some (.cells zMv.cs 26 (0, 0))
 bel : Below w.heap.size w wr
 sz : w.heap.size + 2 ≤ wr.heap.size
section
variable {w wr w' : World} {x : Mv}
theorem Cc.later (h : Cc w wr x) (hb : Below wr.heap.size wr w') : Cc w w' x :=
 ⟨row_lat h.bx hb, row_lat h.re hb, h.bel.trans (hb.mono (by have := h.bel.size; omega)), Nat.le_trans h.sz hb.size⟩
theorem Cc.put (h : Cc w wr x) (j : Nat) (v : Value) (x' : Mv) (he : x.cs.setIfInBounds j v = x'.cs) : Cc w (wr.setCell ⟨w.heap.size, j, none⟩ v) x' :=
 ⟨row_put h.bx j v x' he, row_keep h.re (by omega), Below.drop h.bel (by omega), by simpa using h.sz⟩
theorem cc_new0 (w : World) (x : Mv) : Cc w ((w.alloc (.cells x.cs 26)).alloc (.cells zMv.cs 26)) x := by
 have z1 : (w.alloc (.cells x.cs 26)).heap.size = w.heap.size + 1 := by simp
 have a1 := row_lat (heap_alloc_last w (.cells x.cs 26)) (below_new _ (.cells zMv.cs 26))
 have a2 := heap_alloc_last (w.alloc (.cells x.cs 26)) (.cells zMv.cs 26)
 rw [z1] at a2
 exact ⟨a1, a2, ((Below.refl _ _).alloc (Nat.le_refl _) _).alloc (by omega) _, by simp⟩
theorem cc_new (w : World) (x : Mv) : Cc w ((w.alloc (.cells x.cs 26)).alloc (.cells #[Value.slice none 0 0, Value.slice none 0 0, Value.bool false, Value.bool false, Value.bool false, Value.bool false, Value.slice none 0 0, Value.slice none 0 0, Value.int .i64 0] 26)) x := cc_new0 w x
theorem Cc.done {x : Mv} (h : Cc w wr x) : Cd w (wr.setRow (w.heap.size + 1) x.cs) x :=
 ⟨setRow_heap wr _ zMv.cs _ 26 _ h.re, below_setRow h.bel (by omega) _⟩
theorem RdM.setB {x : Mv} {d : Md} {b : Nat} (h : RdM wr x d) (hw : RdM w x d) (hb : w.heap.size ≤ b) (j : Nat) (v : Value) : RdM (wr.setCell ⟨b, j, none⟩ v) x d := by
 have key : ∀ {a : Option Addr} {ns : List Int}, RdN w a ns → ns = [] ∨ ∀ ad, a = some ad → ad.block ≠ b := fun hr => by
  rcases hr with h0 | ⟨b', off, rfl, hb', _⟩
  · exact .inl h0
  · exact .inr fun ad e => by cases e; show b' ≠ b; omega
 exact ⟨h.m.put (key hw.m), h.r.put (key hw.r), h.i.put (key hw.i), h.o.put (key hw.o), h.ml, h.rl, h.il, h.ol⟩
end
theorem copyM_any (x : Mv) (d : Md) (w : World) (hs : x.small) (hz : x.nz) (hr : RdM w x d) : Calls Tryz.prog 26 #[.agg x.cs] w fun e w' => ∃ y : Mv, e = .returned (.agg y.cs) ∧ y.fl = x.fl ∧ OwnM w' (w.heap.size + 2) y d ∧ Below w.heap.size w w' := by
 obtain ⟨s0, s1, s2, s3⟩ := hs
 have NZ := hide hz
 have C := hide (cc_new w x)
 have HR := hide hr
 have R := hide (hr.later (uh C).bel)
 have q0 : x.cs[0]? = some (.slice x.m.a x.m.n x.m.c) := rfl
 have T := hide (copyN_any x.m d.m _ (uh R).m hr.ml hz.1 s0)
 clear hr hz
 go_enter Tryz.func26, Tryz.ntmps26
 go_wp2_with fail
 refine (uh T).mono ?_
 rintro e w0 ⟨v, rfl, own, bel⟩
 obtain ⟨a0, n0, c0, rfl⟩ : ∃ a n c, v = .slice a n c := by obtain ⟨a, c, e, _⟩ := own.rd; exact ⟨_, _, _, e⟩
 have Cn := hide ((uh C).later bel)
 have Rn := hide ((uh R).later bel)
 have O0 := hide (OwnN.base own (B' := w.heap.size + 2) (uh C).sz)
 clear own bel T C R q0
 have o0 := row_m (uh Cn).bx
 have f0 := row_fz (uh Cn).bx 0
 have b1 := row_r (uh Cn).bx
 have C := hide ((uh Cn).put 0 (.slice a0 n0 c0) (⟨⟨a0, n0, c0⟩, x.r, x.n, x.z, x.v, x.c, x.i, x.o, x.st⟩ : Mv) rfl)
 have R := hide ((uh Rn).setB (uh HR) (Nat.le_refl _) 0 (.slice a0 n0 c0))
 have On := hide ((uh O0).put (b := w.heap.size) (j := 0) (u := .slice a0 n0 c0) (by omega))
 clear O0
 have O0 := hide (uh On)
 clear On
 have T := hide (copyN_any x.r d.r _ (uh R).r (uh R).rl (uh NZ).2.1 s1)
 clear Cn Rn
 go_wp2_with fail
 refine (uh T).mono ?_
 rintro e w1 ⟨v, rfl, own, bel⟩
 obtain ⟨a1, n1, c1, rfl⟩ : ∃ a n c, v = .slice a n c := by obtain ⟨a, c, e, _⟩ := own.rd; exact ⟨_, _, _, e⟩
 have Cn := hide ((uh C).later bel)
 have Rn := hide ((uh R).later bel)
 have O1 := hide (OwnN.base own (B' := w.heap.size + 2) (uh C).sz)
 have On := hide ((uh O0).later bel)
 have A01 : Hid (Ap ⟨a0, n0, c0⟩ ⟨a1, n1, c1⟩) := hide (ap_of (uh O0) own (Nat.le_refl _))
 clear O0
 have O0 := hide (uh On)
 clear On
 clear own bel T C R
 have o1 := row_r (uh Cn).bx
 have f1 := row_fz (uh Cn).bx 1
 have b6 := row_i (uh Cn).bx
 have C := hide ((uh Cn).put 1 (.slice a1 n1 c1) (⟨⟨a0, n0, c0⟩, ⟨a1, n1, c1⟩, x.n, x.z, x.v, x.c, x.i, x.o, x.st⟩ : Mv) rfl)
 have R := hide ((uh Rn).setB (uh HR) (Nat.le_refl _) 1 (.slice a1 n1 c1))
 have On := hide ((uh O0).put (b := w.heap.size) (j := 1) (u := .slice a1 n1 c1) (by omega))
 clear O0
 have O0 := hide (uh On)
 clear On
 have On := hide ((uh O1).put (b := w.heap.size) (j := 1) (u := .slice a1 n1 c1) (by omega))
 clear O1
 have O1 := hide (uh On)
 clear On
 have T := hide (copyN_any x.i d.i _ (uh R).i (uh R).il (uh NZ).2.2.1 s2)
 clear Cn Rn
 go_wp2_with fail
 refine (uh T).mono ?_
 rintro e w2 ⟨v, rfl, own, bel⟩
 obtain ⟨a2, n2, c2, rfl⟩ : ∃ a n c, v = .slice a n c := by obtain ⟨a, c, e, _⟩ := own.rd; exact ⟨_, _, _, e⟩
 have Cn := hide ((uh C).later bel)
 have Rn := hide ((uh R).later bel)
 have O2 := hide (OwnN.base own (B' := w.heap.size + 2) (uh C).sz)
 have On := hide ((uh O0).later bel)
 have A02 : Hid (Ap ⟨a0, n0, c0⟩ ⟨a2, n2, c2⟩) := hide (ap_of (uh O0) own (Nat.le_refl _))
 clear O0
 have O0 := hide (uh On)
 clear On
 have On := hide ((uh O1).later bel)
 have A12 : Hid (Ap ⟨a1, n1, c1⟩ ⟨a2, n2, c2⟩) := hide (ap_of (uh O1) own (Nat.le_refl _))
 clear O1
 have O1 := hide (uh On)
 clear On
 clear own bel T C R
 have o6 := row_i (uh Cn).bx
 have f6 := row_fz (uh Cn).bx 6
 have b7 := row_o (uh Cn).bx
 have C := hide ((uh Cn).put 6 (.slice a2 n2 c2) (⟨⟨a0, n0, c0⟩, ⟨a1, n1, c1⟩, x.n, x.z, x.v, x.c, ⟨a2, n2, c2⟩, x.o, x.st⟩ : Mv) rfl)
 have R := hide ((uh Rn).setB (uh HR) (Nat.le_refl _) 6 (.slice a2 n2 c2))
 have On := hide ((uh O0).put (b := w.heap.size) (j := 6) (u := .slice a2 n2 c2) (by omega))
 clear O0
 have O0 := hide (uh On)
 clear On
 have On := hide ((uh O1).put (b := w.heap.size) (j := 6) (u := .slice a2 n2 c2) (by omega))
 clear O1
 have O1 := hide (uh On)
 clear On
 have On := hide ((uh O2).put (b := w.heap.size) (j := 6) (u := .slice a2 n2 c2) (by omega))
 clear O2
 have O2 := hide (uh On)
 clear On
 have T := hide (copyN_any x.o d.o _ (uh R).o (uh R).ol (uh NZ).2.2.2 s3)
 clear Cn Rn
 go_wp2_with fail
 refine (uh T).mono ?_
 rintro e w3 ⟨v, rfl, own, bel⟩
 obtain ⟨a3, n3, c3, rfl⟩ : ∃ a n c, v = .slice a n c := by obtain ⟨a, c, e, _⟩ := own.rd; exact ⟨_, _, _, e⟩
 have Cn := hide ((uh C).later bel)
 have Rn := hide ((uh R).later bel)
 have O3 := hide (OwnN.base own (B' := w.heap.size + 2) (uh C).sz)
 have On := hide ((uh O0).later bel)
 have A03 : Hid (Ap ⟨a0, n0, c0⟩ ⟨a3, n3, c3⟩) := hide (ap_of (uh O0) own (Nat.le_refl _))
 clear O0
 have O0 := hide (uh On)
 clear On
 have On := hide ((uh O1).later bel)
 have A13 : Hid (Ap ⟨a1, n1, c1⟩ ⟨a3, n3, c3⟩) := hide (ap_of (uh O1) own (Nat.le_refl _))
 clear O1
 have O1 := hide (uh On)
 clear On
 have On := hide ((uh O2).later bel)
 have A23 : Hid (Ap ⟨a2, n2, c2⟩ ⟨a3, n3, c3⟩) := hide (ap_of (uh O2) own (Nat.le_refl _))
 clear O2
 have O2 := hide (uh On)
 clear On
 clear own bel T C R
 have o7 := row_o (uh Cn).bx
 have f7 := row_fz (uh Cn).bx 7
 have C := hide ((uh Cn).put 7 (.slice a3 n3 c3) (⟨⟨a0, n0, c0⟩, ⟨a1, n1, c1⟩, x.n, x.z, x.v, x.c, ⟨a2, n2, c2⟩, ⟨a3, n3, c3⟩, x.st⟩ : Mv) rfl)
 have On := hide ((uh O0).put (b := w.heap.size) (j := 7) (u := .slice a3 n3 c3) (by omega))
 clear O0
 have O0 := hide (uh On)
 clear On
 have On := hide ((uh O1).put (b := w.heap.size) (j := 7) (u := .slice a3 n3 c3) (by omega))
 clear O1
 have O1 := hide (uh On)
 clear On
 have On := hide ((uh O2).put (b := w.heap.size) (j := 7) (u := .slice a3 n3 c3) (by omega))
 clear O2
 have O2 := hide (uh On)
 clear On
 have On := hide ((uh O3).put (b := w.heap.size) (j := 7) (u := .slice a3 n3 c3) (by omega))
 clear O3
 have O3 := hide (uh On)
 clear On
 clear Cn Rn
 go_wp2_with (first | (refine wpList_load_row rfl 26 _ rfl w.heap.size rfl 26 (Mv.cs (⟨⟨a0, n0, c0⟩, ⟨a1, n1, c1⟩, x.n, x.z, x.v, x.c, ⟨a2, n2, c2⟩, ⟨a3, n3, c3⟩, x.st⟩ : Mv)) (0, 0) _ (uh C).bx Tryz.underlying26 rfl (by kernel_rfl) ?_) | (refine wpList_store_row rfl 26 _ _ rfl (w.heap.size + 1) (Mv.cs (⟨⟨a0, n0, c0⟩, ⟨a1, n1, c1⟩, x.n, x.z, x.v, x.c, ⟨a2, n2, c2⟩, ⟨a3, n3, c3⟩, x.st⟩ : Mv)) rfl rfl 26 zMv.cs (uh C).re (by kernel_rfl) rfl (Mv.cs_one _) ?_))
 refine bodyPost_ret (results_cell_row (P := Tryz.prog) rfl _ _ (w.heap.size + 1) 26 (Mv.cs (⟨⟨a0, n0, c0⟩, ⟨a1, n1, c1⟩, x.n, x.z, x.v, x.c, ⟨a2, n2, c2⟩, ⟨a3, n3, c3⟩, x.st⟩ : Mv)) (0, 0) _ rfl (uh C).done.re Tryz.underlying26 rfl (by kernel_rfl)) rfl ?_
 exact ⟨(⟨⟨a0, n0, c0⟩, ⟨a1, n1, c1⟩, x.n, x.z, x.v, x.c, ⟨a2, n2, c2⟩, ⟨a3, n3, c3⟩, x.st⟩ : Mv), rfl, rfl, ⟨(uh O0).row (by omega) _, (uh O1).row (by omega) _, (uh O2).row (by omega) _, (uh O3).row (by omega) _, uh A01, uh A02, uh A03, uh A12, uh A13, uh A23⟩, (uh C).done.bel⟩
end
end Go.Proofs.YtboedaofbchdkaaGreatDoor
