/- Contracts over this seat's translation, laid together; conditions stand as hypotheses of each. -/
import Derived.Test.YtjpbjbnialehbaaBtA
import Derived.Test.YtjpbjbnialehbaaBtB
import Derived.Test.YtjpbjbnialehbaaBtC
import Derived.Test.YtjpbjbnialehbaaBtD
import Derived.Deep.CutRange

namespace Go.Proofs.Ytjpbjbnialehbaa
open Go.ChangeShapes Go.WideShapes Go.ChangeAt Go.RowKit
set_option linter.unusedVariables false
set_option maxRecDepth 8000
set_option linter.unusedSimpArgs false
set_option maxHeartbeats 2000000 in
theorem sameM_any (x y : Mv) (d : Md) (w : World) (hf : y.fl = x.fl) (hs : x.small) (hx : RdM w x d) (hy : RdM w y d) : Calls Try.prog 27 #[.agg x.cs, .agg y.cs] w fun e w' => e = .returned (.bool true) ∧ Below w.heap.size w w' := by
  have T := hide (tw_new w x y)
  have X := hide (hx.later (unhide T).bel)
  have Y := hide (hy.later (unhide T).bel)
  have p0 : x.cs[0]? = some (.slice x.m.a x.m.n x.m.c) := rfl
  have q0 : y.cs[0]? = some (.slice y.m.a x.m.n y.m.c) := by rw [← hx.ml, hy.ml]; rfl
  have E := hide (sameInts_any x.m.a y.m.a x.m.n x.m.c y.m.c d.m _ hx.ml (by have := hs.1; omega) (unhide X).m (unhide Y).m)
  have F := hide hf
  have S := hide hs
  clear hf hs hx hy
  go_enter Try.func27, Try.ntmps27
  go_wp2_with fail
  refine (unhide E).mono ?_
  rintro e w1 ⟨rfl, hb⟩
  have T1 := hide ((unhide T).later hb)
  have X1 := hide ((unhide X).later hb)
  have Y1 := hide ((unhide Y).later hb)
  clear hb T X Y E p0 q0
  have p0 := row_r (unhide T1).bx
  have q0 : w1.cell? ⟨w.heap.size + 1, 1, none⟩ = some (.slice y.r.a x.r.n y.r.c) := by rw [← (unhide X1).rl, (unhide Y1).rl]; exact row_r (unhide T1).by'
  have E := hide (sameInts_any x.r.a y.r.a x.r.n x.r.c y.r.c d.r _ (unhide X1).rl (by have := (unhide S).2.1; omega) (unhide X1).r (unhide Y1).r)
  go_wp2_with fail
  refine (unhide E).mono ?_
  rintro e w2 ⟨rfl, hb⟩
  have T := hide ((unhide T1).later hb)
  have X := hide ((unhide X1).later hb)
  have Y := hide ((unhide Y1).later hb)
  clear hb T1 X1 Y1 E p0 q0
  have p2 := row_n (unhide T).bx
  have q2 := (row_n (unhide T).by').trans (by rw [fl_n (unhide F)])
  have p3 := row_z (unhide T).bx
  have q3 := (row_z (unhide T).by').trans (by rw [fl_z (unhide F)])
  have p4 := row_v (unhide T).bx
  have q4 := (row_v (unhide T).by').trans (by rw [fl_v (unhide F)])
  have p5 := row_c (unhide T).bx
  have q5 := (row_c (unhide T).by').trans (by rw [fl_c (unhide F)])
  have p0 := row_i (unhide T).bx
  have q0 : w2.cell? ⟨w.heap.size + 1, 6, none⟩ = some (.slice y.i.a x.i.n y.i.c) := by rw [← (unhide X).il, (unhide Y).il]; exact row_i (unhide T).by'
  have E := hide (sameInts_any x.i.a y.i.a x.i.n x.i.c y.i.c d.i _ (unhide X).il (by have := (unhide S).2.2.1; omega) (unhide X).i (unhide Y).i)
  go_wp2_with fail
  refine (unhide E).mono ?_
  rintro e w3 ⟨rfl, hb⟩
  have T1 := hide ((unhide T).later hb)
  have X1 := hide ((unhide X).later hb)
  have Y1 := hide ((unhide Y).later hb)
  clear hb T X Y E p0 q0 p2 q2 p3 q3 p4 q4 p5 q5
  have p0 := row_o (unhide T1).bx
  have q0 : w3.cell? ⟨w.heap.size + 1, 7, none⟩ = some (.slice y.o.a x.o.n y.o.c) := by rw [← (unhide X1).ol, (unhide Y1).ol]; exact row_o (unhide T1).by'
  have E := hide (sameInts_any x.o.a y.o.a x.o.n x.o.c y.o.c d.o _ (unhide X1).ol (by have := (unhide S).2.2.2; omega) (unhide X1).o (unhide Y1).o)
  go_wp2_with fail
  refine (unhide E).mono ?_
  rintro e w4 ⟨rfl, hb⟩
  have T := hide ((unhide T1).later hb)
  clear hb T1 X1 Y1 E p0 q0
  have p8 := row_st (unhide T).bx
  have q8 := (row_st (unhide T).by').trans (by rw [fl_st (unhide F)])
  go_wp2
  go_ret
  exact ⟨rfl, (unhide T).bel⟩
end Go.Proofs.Ytjpbjbnialehbaa

namespace Go.Proofs.Ytjpbjbnialehbaa
open Go.ChangeShapes Go.WideShapes Go.ChangeAt Go.RowKit
set_option linter.unusedVariables false
set_option maxRecDepth 8000
set_option linter.unusedSimpArgs false
section
variable {o : Oper} {a : Act} {w : World} {K : Act → World → Prop} {Q : Exit → Act → World → Prop}
end
section
variable {P : Program} {ops : Array Oper} {Q : Exit → Act → World → Prop}
end
/-- A row of another type lies in none of a machine's lists. -/
theorem OwnN.off {w : World} {B g t : Nat} {v : Value} {ns : List Int} {cs : Array Value} {fr : Nat × Nat} (h : OwnN w B v ns) (hg : w.heap[g]? = some (.cells cs t fr)) (ht : t ≠ 3) : v.ownBlock ≠ some g := fun e => by
  obtain ⟨h1, ⟨h2, h3⟩ | ⟨gm, cap, cur, e2, hB, hh, hn, hm, hs, ht2⟩⟩ := id h
  · rw [h2] at e; cases e
  · rw [e2] at e
    have : gm = g := by simpa [Value.ownBlock] using e
    subst this
    rw [hg] at hh
    injection hh with hh
    injection hh with _ hh
    exact ht hh
theorem OwnM.off {w : World} {B g t : Nat} {x : Mv} {d : Md} {cs : Array Value} {fr : Nat × Nat} (h : OwnM w B x d) (hg : w.heap[g]? = some (.cells cs t fr)) (ht : t ≠ 3) : ∀ b, x.at b → b ≠ g := fun b hb e => by
  subst e
  rcases hb with h1 | h1 | h1 | h1
  · exact h.m.off hg ht h1
  · exact h.r.off hg ht h1
  · exact h.i.off hg ht h1
  · exact h.o.off hg ht h1
theorem OwnM.lay {w : World} {B g t : Nat} {x : Mv} {d : Md} {cs : Array Value} {fr : Nat × Nat} (h : OwnM w B x d) (hg : w.heap[g]? = some (.cells cs t fr)) (ht : t ≠ 3) (c2 : Array Value) : OwnM (w.setRow g c2) B x d :=
  h.keepH fun k hk _ => setRow_other w g k c2 (fun e => h.off hg ht k hk e)
end Go.Proofs.Ytjpbjbnialehbaa

namespace Go.Proofs.Ytjpbjbnialehbaa
open Go.ChangeShapes Go.WideShapes Go.ChangeAt Go.RowKit
set_option linter.unusedVariables false
set_option maxRecDepth 8000
set_option linter.unusedSimpArgs false
/-- The cursor, and the place of an answer, while draws go on. -/
structure Er (w wr : World) (cb : Nat) (a : Option Addr) (len cap : Nat) (xs : List UInt8) (z : Array Value) (t : TypeId) : Prop where
  cur : Cur wr cb a len cap xs
  gr : w.grownBy wr (some cb)
  re : wr.heap[w.heap.size]? = some (.cells z t (0, 0))
  lt : cb < w.heap.size
  cd : xs = [] ∨ ∀ ad, a = some ad → ad.block < w.heap.size
section
variable {w wr w' : World} {cb : Nat} {a : Option Addr} {len cap : Nat} {xs : List UInt8} {z : Array Value} {t : TypeId}
theorem er_new (h : Cur w cb a len cap xs) (z : Array Value) (t : TypeId) : Er w (w.alloc (.cells z t)) cb a len cap xs z t := ⟨h.later (below_new w _), grownBy_below (below_new w _), heap_alloc_last w _, h.lt, h.code⟩
theorem Er.draw (h : Er w wr cb a len cap xs z t) (hc : Cur w' cb a len cap xs) (hg : wr.grownBy w' (some cb)) : Er w w' cb a len cap xs z t := ⟨hc, h.gr.trans hg, row_past h.re hg (by have := h.lt; omega), h.lt, h.cd⟩
theorem Er.store (h : Er w wr cb a len cap xs z t) (c : Array Value) : Er w (wr.setRow w.heap.size c) cb a len cap xs c t :=
  ⟨h.cur.past (grownBy_setRow c) h.lt h.cd (fun g e => by cases e; exact Nat.le_refl _), grownBy_own h.gr (grownBy_setRow c) (fun b e => by cases e; exact Nat.le_refl _), setRow_heap wr _ _ _ t _ h.re, h.lt, h.cd⟩
theorem Er.later (h : Er w wr cb a len cap xs z t) (hb : Below wr.heap.size wr w') : Er w w' cb a len cap xs z t := ⟨h.cur.later hb, grown_below h.gr hb, row_lat h.re hb, h.lt, h.cd⟩
end
end Go.Proofs.Ytjpbjbnialehbaa

namespace Go.Proofs.Ytjpbjbnialehbaa
open Go.ChangeShapes Go.WideShapes Go.ChangeAt Go.RowKit
set_option linter.unusedVariables false
set_option maxRecDepth 8000
set_option linter.unusedSimpArgs false
/-- A list lies from a bound on. -/
def LoS (B : Nat) (s : Sl) (ns : List Int) : Prop := ns = [] ∨ ∀ ad, s.a = some ad → B ≤ ad.block
/-- A machine that is read, of blocks from B on; right or not. -/
structure Am (w : World) (B : Nat) (x : Mv) (d : Md) : Prop where
  rd : RdM w x d
  sm : d.small
  nz : x.nz
  r8 : d.r.length ≤ 8
  lm : LoS B x.m d.m
  lr : LoS B x.r d.r
  li : LoS B x.i d.i
  lo : LoS B x.o d.o
section
variable {w w' : World} {B : Nat} {x : Mv} {d : Md}
theorem RdN.pastB {a : Option Addr} {ns : List Int} {r : Option Nat} (h : RdN w a ns) (hg : w.grownBy w' r) (hl : ns = [] ∨ ∀ ad, a = some ad → B ≤ ad.block) (hr : ∀ b, r = some b → b < B) : RdN w' a ns := by
  rcases h with h0 | ⟨b, off, ha, hb, hc⟩
  · exact .inl h0
  · by_cases h0 : ns = []
    · exact .inl h0
    refine .inr ⟨b, off, ha, Nat.lt_of_lt_of_le hb hg.size, fun i hi => ?_⟩
    rcases hl with hl | hl
    · exact absurd hl h0
    have hB := hl _ ha
    have e : w'.heap[b]? = w.heap[b]? := hg.block b hb (fun e => by have := hr _ e.symm; simp only at hB; omega)
    rw [← hc i hi]
    unfold World.cell?
    simp only [e]
theorem Am.past {r : Option Nat} (h : Am w B x d) (hg : w.grownBy w' r) (hr : ∀ b, r = some b → b < B) : Am w' B x d :=
  { h with rd := ⟨h.rd.m.pastB hg h.lm hr, h.rd.r.pastB hg h.lr hr, h.rd.i.pastB hg h.li hr, h.rd.o.pastB hg h.lo hr, h.rd.ml, h.rd.rl, h.rd.il, h.rd.ol⟩ }
theorem Am.later (h : Am w B x d) (hb : Below w.heap.size w w') : Am w' B x d := { h with rd := h.rd.later hb }
theorem Am.row (h : Am w B x d) {g : Nat} (hg : g < B) (cs : Array Value) : Am (w.setRow g cs) B x d := h.past (grownBy_setRow cs) (fun b e => by cases e; exact hg)
theorem Am.base {C : Nat} (h : Am w B x d) (hC : C ≤ B) : Am w C x d :=
  { h with lm := h.lm.imp id (fun k ad e => Nat.le_trans hC (k ad e)), lr := h.lr.imp id (fun k ad e => Nat.le_trans hC (k ad e)), li := h.li.imp id (fun k ad e => Nat.le_trans hC (k ad e)), lo := h.lo.imp id (fun k ad e => Nat.le_trans hC (k ad e)) }
theorem OwnN.los {s : Sl} {ns : List Int} (h : OwnN w B s.v ns) : LoS B s ns := by
  obtain ⟨h1, ⟨h2, h3⟩ | ⟨gm, cap, cur, e, hB, hh, hn, hm, hs, ht⟩⟩ := id h
  · exact .inl (List.eq_nil_of_length_eq_zero h3)
  · refine .inr fun ad ea => ?_
    have e2 : s.v = Value.slice s.a s.n s.c := rfl
    rw [e2, ea] at e
    injection e with e
    injection e with e
    rw [e]
    exact hB
theorem OwnM.am (h : OwnM w B x d) (hs : d.small) (h8 : d.r.length ≤ 8) : Am w B x d := ⟨h.rd, hs, h.nz, h8, h.m.los, h.r.los, h.i.los, h.o.los⟩
end
theorem Am.ofM {w : World} {B : Nat} {y : Mv} {d : Md} (O : OwnM w B y d) (hD : Dk d) {s : Sl} {ns : List Int} (hr : RdN w s.a ns) (hl : ns.length = s.n) (hb : ns.length ≤ 1048576) (hz : s.nz) (lo : LoS B s ns) : Am w B { y with m := s } ⟨ns, d.r, d.i, d.o⟩ :=
  ⟨⟨hr, O.rd.r, O.rd.i, O.rd.o, hl, O.rd.rl, O.rd.il, O.rd.ol⟩, ⟨hb, hD.small.2⟩, ⟨hz, O.nz.2⟩, by have := hD.rl; show d.r.length ≤ 8; omega, lo, O.r.los, O.i.los, O.o.los⟩
theorem Am.ofR {w : World} {B : Nat} {y : Mv} {d : Md} (O : OwnM w B y d) (hD : Dk d) {s : Sl} {ns : List Int} (hr : RdN w s.a ns) (hl : ns.length = s.n) (hb : ns.length ≤ 8) (hz : s.nz) (lo : LoS B s ns) : Am w B { y with r := s } ⟨d.m, ns, d.i, d.o⟩ :=
  ⟨⟨O.rd.m, hr, O.rd.i, O.rd.o, O.rd.ml, hl, O.rd.il, O.rd.ol⟩, ⟨hD.small.1, by show ns.length ≤ _; omega, hD.small.2.2⟩, ⟨O.nz.1, hz, O.nz.2.2⟩, hb, O.m.los, lo, O.i.los, O.o.los⟩
theorem Am.ofI {w : World} {B : Nat} {y : Mv} {d : Md} (O : OwnM w B y d) (hD : Dk d) {s : Sl} {ns : List Int} (hr : RdN w s.a ns) (hl : ns.length = s.n) (hb : ns.length ≤ 1048576) (hz : s.nz) (lo : LoS B s ns) : Am w B { y with i := s } ⟨d.m, d.r, ns, d.o⟩ :=
  ⟨⟨O.rd.m, O.rd.r, hr, O.rd.o, O.rd.ml, O.rd.rl, hl, O.rd.ol⟩, ⟨hD.small.1, hD.small.2.1, hb, hD.small.2.2.2⟩, ⟨O.nz.1, O.nz.2.1, hz, O.nz.2.2.2⟩, by have := hD.rl; show d.r.length ≤ 8; omega, O.m.los, O.r.los, lo, O.o.los⟩
theorem Am.ofO {w : World} {B : Nat} {y : Mv} {d : Md} (O : OwnM w B y d) (hD : Dk d) {s : Sl} {ns : List Int} (hr : RdN w s.a ns) (hl : ns.length = s.n) (hb : ns.length ≤ 1048576) (hz : s.nz) (lo : LoS B s ns) : Am w B { y with o := s } ⟨d.m, d.r, d.i, ns⟩ :=
  ⟨⟨O.rd.m, O.rd.r, O.rd.i, hr, O.rd.ml, O.rd.rl, O.rd.il, hl⟩, ⟨hD.small.1, hD.small.2.1, hD.small.2.2.1, hb⟩, ⟨O.nz.1, O.nz.2.1, O.nz.2.2.1, hz⟩, by have := hD.rl; show d.r.length ≤ 8; omega, O.m.los, O.r.los, O.i.los, lo⟩
/-- What stands ahead of the answer. -/
structure Fa (w wr : World) (cb : Nat) (a : Option Addr) (len cap : Nat) (xs : List UInt8) (y : Mv) (g5 : Nat) (d : Md) : Prop where
  er : Er w wr cb a len cap xs zMv.cs 38
  r5 : wr.heap[g5]? = some (.cells y.cs 38 (0, 0))
  am : Am wr (w.heap.size + 1) y d
section
variable {w wr w' : World} {cb : Nat} {a : Option Addr} {len cap : Nat} {xs : List UInt8} {y : Mv} {g5 : Nat} {d : Md}
theorem Ed.er (h : Ed w wr cb a len cap xs y g5 d) : Er w wr cb a len cap xs zMv.cs 38 := ⟨h.cur, h.gr, h.re, h.lt, h.cd⟩
theorem Ed.fa (h : Ed w wr cb a len cap xs y g5 d) (hs : d.small) (h8 : d.r.length ≤ 8) : Fa w wr cb a len cap xs y g5 d := ⟨h.er, h.r5, h.own.am hs h8⟩
/-- A list of the machine laid anew. -/
theorem Ed.own5 (h : Ed w wr cb a len cap xs y g5 d) (j : Nat) (v : Value) : OwnM (wr.setCell ⟨g5, j, none⟩ v) (w.heap.size + 1) y d := h.own.keepH fun b hb _ => Below.heap_setCell wr ⟨g5, j, none⟩ v b (h.ne b hb)
theorem Ed.put5 (h : Ed w wr cb a len cap xs y g5 d) (j : Nat) (v : Value) (y' : Mv) (d' : Md) (he : y.cs.setIfInBounds j v = y'.cs) (ha : Am (wr.setCell ⟨g5, j, none⟩ v) (w.heap.size + 1) y' d') : Fa w (wr.setCell ⟨g5, j, none⟩ v) cb a len cap xs y' g5 d' :=
  ⟨⟨h.cur.past (grownBy_set v) h.lt h.cd (fun g e => by cases e; have := h.l5; omega), grownBy_own h.gr (grownBy_set v) (fun g e => by cases e; have := h.l5; omega), row_keep h.re (by have := h.l5; omega), h.lt, h.cd⟩, row_put h.r5 j v y' he, ha⟩
theorem Fa.done (h : Fa w wr cb a len cap xs y g5 d) : (wr.setRow w.heap.size y.cs).heap[w.heap.size]? = some (.cells y.cs 38 (0, 0)) ∧ Am (wr.setRow w.heap.size y.cs) (w.heap.size + 1) y d ∧ Cur (wr.setRow w.heap.size y.cs) cb a len cap xs ∧ w.grownBy (wr.setRow w.heap.size y.cs) (some cb) :=
  ⟨(h.er.store y.cs).re, h.am.row (by omega) _, (h.er.store y.cs).cur, (h.er.store y.cs).gr⟩
end
theorem rdN_take {w : World} {a : Option Addr} {ns : List Int} (h : RdN w a ns) (k : Nat) : RdN w a (ns.take k) := by
  rcases h with h0 | ⟨b, off, ha, hb, hc⟩
  · exact .inl (by rw [h0]; simp)
  · refine .inr ⟨b, off, ha, hb, fun i hi => ?_⟩
    have hi' : i < k ∧ i < ns.length := by simp at hi; omega
    rw [hc i hi'.2]
    congr 2
    unfold nAt
    rw [List.getD_eq_getElem?_getD, List.getD_eq_getElem?_getD, List.getElem?_take, if_pos hi'.1]
theorem cuts_bd : ∀ i : Fin 3, 0 ≤ nAt [0, 100, 255] i.val ∧ nAt [0, 100, 255] i.val ≤ 255 := by decide +kernel
theorem row_cell5 {w : World} {g gm n c k : Nat} {y : Mv} (h : w.heap[g]? = some (.cells y.cs 38 (0, 0))) (e : y.m = ⟨some ⟨gm, 0, none⟩, n, c⟩) (hn : n = k) : w.cell? ⟨g, 0, none⟩ = some (.slice (some ⟨gm, 0, none⟩) k c) := by
  have := row_m h
  rw [e, hn] at this
  exact this
theorem row_cell6 {w : World} {g gm n c k : Nat} {y : Mv} (h : w.heap[g]? = some (.cells y.cs 38 (0, 0))) (e : y.r = ⟨some ⟨gm, 0, none⟩, n, c⟩) (hn : n = k) : w.cell? ⟨g, 1, none⟩ = some (.slice (some ⟨gm, 0, none⟩) k c) := by
  have := row_r h
  rw [e, hn] at this
  exact this
theorem own_form2 {w : World} {B : Nat} {s : Sl} {ns : List Int} (h : OwnN w B s.v ns) (h0 : 0 < ns.length) : ∃ g c, s = ⟨some ⟨g, 0, none⟩, ns.length, c⟩ ∧ ns.length ≤ c := by
  obtain ⟨sa, sn, sc⟩ := s
  rcases h.form with ⟨_, e⟩ | ⟨g, c, e, _, _, hc, _⟩
  · rw [e] at h0; simp at h0
  · unfold Sl.v at e
    simp at e
    obtain ⟨rfl, rfl, rfl⟩ := e
    exact ⟨g, sc, rfl, hc⟩
theorem los_take {B g n c k c2 m : Nat} {ns : List Int} (h : LoS B ⟨some ⟨g, 0, none⟩, n, c⟩ ns) : LoS B ⟨some ⟨g, 0, none⟩, k, c2⟩ (ns.take m) := by
  rcases h with h | h
  · exact .inl (by rw [h]; simp)
  · exact .inr h
set_option maxHeartbeats 4000000 in
theorem any5_any (cb : Nat) (a : Option Addr) (len cap : Nat) (xs : List UInt8) (w : World) (hc : Cur w cb a len cap xs) :
    Calls Try.prog 41 #[.pointer (some ⟨cb, 0, none⟩)] w fun e w' => ∃ (x : Mv) (d : Md), e = .returned (.agg x.cs) ∧ Am w' (w.heap.size + 1) x d ∧ Cur w' cb a len cap xs ∧ w.grownBy w' (some cb) := by
  have E0 := hide (er_new hc zMv.cs 38)
  have I0 := hide (draw5_any cb a len cap xs _ (unhide E0).cur)
  have hlt := hc.lt
  have CD := hide hc.code
  clear hc
  go_enter Try.func41, Try.ntmps41
  go_wp2_with fail
  refine (unhide I0).mono ?_
  rintro e w1 ⟨y, d, rfl, hst, hD, oy, hc1, hg1⟩
  have E1 := hide ((unhide E0).draw hc1 hg1)
  have s1 : w.heap.size < w1.heap.size := row_lt (unhide E1).re
  have O1 := hide (oy.base (C := w.heap.size + 1) (by simp))
  have DD := hide hD
  have D1 := hide (show Ed w (w1.alloc (.cells y.cs 38)) cb a len cap xs y w1.heap.size d from ⟨(unhide E1).cur.later (below_new w1 _), grown_below (unhide E1).gr (below_new w1 _), row_lat (unhide E1).re (below_new w1 _), heap_alloc_last w1 _, (unhide O1).later (below_new w1 _), s1, fun b hb => by have := ((unhide O1).lo hb).2; omega, hlt, unhide CD⟩)
  have I1 := hide (below_any cb a len cap xs 16 _ (by omega) (unhide D1).cur)
  clear hc1 hg1 I0 E0 E1 O1 oy hst hD
  go_wp2_with (refine wpList_store_new rfl 38 _ _ rfl y.cs rfl rfl _ (by kernel_rfl) rfl (Mv.cs_one _) ?_)
  refine (unhide I1).mono ?_
  rintro e w2 ⟨v, hv0, hv1, rfl, hc2, hg2⟩
  have D2 := hide ((unhide D1).draw hc2 hg2)
  clear hc2 hg2 I1 D1
  obtain ⟨gm, cm, em, lm⟩ := own_form2 (unhide D2).own.m (by have := (unhide DD).ml; omega)
  obtain ⟨gr, cr, er, lr⟩ := own_form2 (unhide D2).own.r (by have := (unhide DD).rl; omega)
  have EM := hide em
  have ERR := hide er
  have LM := hide lm
  have LR := hide lr
  clear em er lm lr
  by_cases q0 : v = 0
  · subst q0
    clear hv0 hv1
    have D3 := hide ((unhide D2).later below_drew)
    go_wp2_with fail
    refine wp_region_any (by kernel_rfl) ?_
    change wpAny _ _ _ _ _ _ _ (World.drew _)
    clear D2
    generalize w2.drew = wd at D3 ⊢
    have I3 := hide (int_lit cb a len cap xs wd (unhide D3).cur [0, 100, 255] 3 rfl (by omega) (by omega) wd.heap.size rfl _ rfl)
    have D4 := hide ((unhide D3).later (below_new wd (.cells #[.int .i64 0, .int .i64 100, .int .i64 255] 3)))
    refine wpAny_take (i := 0) (v := .pointer (some ⟨w1.heap.size, 0, none⟩)) rfl (by kernel_rfl) (by kernel_rfl) (by kernel_rfl) (fun _ _ _ h => h) (Or.inl ⟨by rfl, fun w => ?_⟩) ?_
    · go_simp
    go_simp
    refine wpAny_take (i := 2) (v := .pointer (some ⟨cb, 0, none⟩)) rfl (by kernel_rfl) (by kernel_rfl) (by kernel_rfl) (fun _ _ _ h => h) (Or.inl ⟨by rfl, fun w => ?_⟩) ?_
    · go_simp
    go_simp
    refine wpAny_ready (rs := [1, 3]) (by kernel_rfl) (by simp) ?_
    refine AllReady.cons rfl (fun K2 hK => ?_) (AllReady.cons rfl (fun K2 hK => ?_) (AllReady.nil))
    · skip
      have o0 := row_cell5 (unhide D3).r5 (unhide EM) (unhide DD).ml
      go_simp
      clear o0
      refine hK _ _ ?_
      clear hK K2
      refine wpAny_ready (rs := [3]) (by kernel_rfl) (by simp) ?_
      refine AllReady.cons rfl (fun K2 hK => ?_) (AllReady.nil)
      go_simp
      refine hK _ _ ?_
      clear hK K2
      refine wpAny_ready (rs := [4]) (by kernel_rfl) (by simp) ?_
      refine AllReady.cons rfl (fun K2 hK => ?_) (AllReady.nil)
      go_simp
      refine (unhide I3).mono ?_
      rintro e w4 ⟨j, hj, rfl, hc3, hg3⟩
      have hjb := cuts_bd ⟨j, hj⟩
      simp only at hjb
      generalize nAt [0, 100, 255] j = kk at hjb ⊢
      obtain ⟨k0, k1⟩ := hjb
      obtain ⟨k, rfl⟩ := Int.eq_ofNat_of_zero_le k0
      have D5 := hide ((unhide D4).draw hc3 hg3)
      refine hK _ _ ?_
      clear hK K2 hc3 hg3 I3 hj
      have hkc : (k : Int) ≤ (cm : Int) := by have := (unhide DD).ml; have := unhide LM; omega
      have hkc2 : k ≤ cm := by omega
      refine wpAny_take (i := 5) (v := .slice (some ⟨gm, 0, none⟩) k cm) rfl (by kernel_rfl) (by kernel_rfl) (by kernel_rfl) (fun _ _ _ h => h) (Or.inl ⟨by rfl, fun w => ?_⟩) ?_
      · go_simp
      go_simp
      refine wpAny_take (i := 6) (v := .pointer (some ⟨w1.heap.size, 0, none⟩)) rfl (by kernel_rfl) (by kernel_rfl) (by kernel_rfl) (fun _ _ _ h => h) (Or.inl ⟨by rfl, fun w => ?_⟩) ?_
      · go_simp
      go_simp
      refine wpAny_ready (rs := [7]) (by kernel_rfl) (by simp) ?_
      refine AllReady.cons rfl (fun K2 hK => ?_) (AllReady.nil)
      have o0 := row_m (unhide D5).r5
      have f0 := row_fz (unhide D5).r5 0
      go_simp
      clear o0 f0
      refine hK _ _ ?_
      clear hK K2
      have FF := hide ((unhide D5).put5 0 (.slice (some ⟨gm, 0, none⟩) k cm) ({ y with m := ⟨some ⟨gm, 0, none⟩, k, cm⟩ } : Mv) ⟨d.m.take k, d.r, d.i, d.o⟩ rfl (Am.ofM ((unhide D5).own5 0 _) (unhide DD) (s := ⟨some ⟨gm, 0, none⟩, k, cm⟩) (by have h := ((unhide D5).own5 0 (.slice (some ⟨gm, 0, none⟩) k cm)).rd.m; rw [unhide EM] at h; exact rdN_take h k) (by have := (unhide DD).ml; simp; omega) (by have := (unhide DD).ml; simp; omega) (fun h => by cases h) (los_take (by have h := (unhide D5).own.m.los; rw [unhide EM] at h; exact h))))
      refine wpAny_done (by kernel_rfl) ?_ _
      go_wp2_with (first | (refine wpList_load_row rfl 38 _ rfl w1.heap.size rfl 38 (Mv.cs ({ y with m := ⟨some ⟨gm, 0, none⟩, k, cm⟩ } : Mv)) (0, 0) _ (unhide FF).r5 Try.underlying38 rfl (by kernel_rfl) ?_) | (refine wpList_store_row rfl 38 _ _ rfl w.heap.size (Mv.cs ({ y with m := ⟨some ⟨gm, 0, none⟩, k, cm⟩ } : Mv)) rfl rfl 38 zMv.cs (unhide FF).er.re (by kernel_rfl) rfl (Mv.cs_one _) ?_))
      obtain ⟨r1, r2, r3, r4⟩ := (unhide FF).done
      refine bodyPost_ret (results_cell_row (P := Try.prog) rfl _ _ w.heap.size 38 (Mv.cs ({ y with m := ⟨some ⟨gm, 0, none⟩, k, cm⟩ } : Mv)) (0, 0) _ rfl r1 Try.underlying38 rfl (by kernel_rfl)) rfl ?_
      exact ⟨_, _, rfl, r2, r3, r4⟩
    · skip
      go_simp
      refine hK _ _ ?_
      clear hK K2
      refine wpAny_ready (rs := [1, 4]) (by kernel_rfl) (by simp) ?_
      refine AllReady.cons rfl (fun K2 hK => ?_) (AllReady.cons rfl (fun K2 hK => ?_) (AllReady.nil))
      · skip
        have o0 := row_cell5 (unhide D4).r5 (unhide EM) (unhide DD).ml
        go_simp
        clear o0
        refine hK _ _ ?_
        clear hK K2
        refine wpAny_ready (rs := [4]) (by kernel_rfl) (by simp) ?_
        refine AllReady.cons rfl (fun K2 hK => ?_) (AllReady.nil)
        go_simp
        refine (unhide I3).mono ?_
        rintro e w4 ⟨j, hj, rfl, hc3, hg3⟩
        have hjb := cuts_bd ⟨j, hj⟩
        simp only at hjb
        generalize nAt [0, 100, 255] j = kk at hjb ⊢
        obtain ⟨k0, k1⟩ := hjb
        obtain ⟨k, rfl⟩ := Int.eq_ofNat_of_zero_le k0
        have D5 := hide ((unhide D4).draw hc3 hg3)
        refine hK _ _ ?_
        clear hK K2 hc3 hg3 I3 hj
        have hkc : (k : Int) ≤ (cm : Int) := by have := (unhide DD).ml; have := unhide LM; omega
        have hkc2 : k ≤ cm := by omega
        refine wpAny_take (i := 5) (v := .slice (some ⟨gm, 0, none⟩) k cm) rfl (by kernel_rfl) (by kernel_rfl) (by kernel_rfl) (fun _ _ _ h => h) (Or.inl ⟨by rfl, fun w => ?_⟩) ?_
        · go_simp
        go_simp
        refine wpAny_take (i := 6) (v := .pointer (some ⟨w1.heap.size, 0, none⟩)) rfl (by kernel_rfl) (by kernel_rfl) (by kernel_rfl) (fun _ _ _ h => h) (Or.inl ⟨by rfl, fun w => ?_⟩) ?_
        · go_simp
        go_simp
        refine wpAny_ready (rs := [7]) (by kernel_rfl) (by simp) ?_
        refine AllReady.cons rfl (fun K2 hK => ?_) (AllReady.nil)
        have o0 := row_m (unhide D5).r5
        have f0 := row_fz (unhide D5).r5 0
        go_simp
        clear o0 f0
        refine hK _ _ ?_
        clear hK K2
        have FF := hide ((unhide D5).put5 0 (.slice (some ⟨gm, 0, none⟩) k cm) ({ y with m := ⟨some ⟨gm, 0, none⟩, k, cm⟩ } : Mv) ⟨d.m.take k, d.r, d.i, d.o⟩ rfl (Am.ofM ((unhide D5).own5 0 _) (unhide DD) (s := ⟨some ⟨gm, 0, none⟩, k, cm⟩) (by have h := ((unhide D5).own5 0 (.slice (some ⟨gm, 0, none⟩) k cm)).rd.m; rw [unhide EM] at h; exact rdN_take h k) (by have := (unhide DD).ml; simp; omega) (by have := (unhide DD).ml; simp; omega) (fun h => by cases h) (los_take (by have h := (unhide D5).own.m.los; rw [unhide EM] at h; exact h))))
        refine wpAny_done (by kernel_rfl) ?_ _
        go_wp2_with (first | (refine wpList_load_row rfl 38 _ rfl w1.heap.size rfl 38 (Mv.cs ({ y with m := ⟨some ⟨gm, 0, none⟩, k, cm⟩ } : Mv)) (0, 0) _ (unhide FF).r5 Try.underlying38 rfl (by kernel_rfl) ?_) | (refine wpList_store_row rfl 38 _ _ rfl w.heap.size (Mv.cs ({ y with m := ⟨some ⟨gm, 0, none⟩, k, cm⟩ } : Mv)) rfl rfl 38 zMv.cs (unhide FF).er.re (by kernel_rfl) rfl (Mv.cs_one _) ?_))
        obtain ⟨r1, r2, r3, r4⟩ := (unhide FF).done
        refine bodyPost_ret (results_cell_row (P := Try.prog) rfl _ _ w.heap.size 38 (Mv.cs ({ y with m := ⟨some ⟨gm, 0, none⟩, k, cm⟩ } : Mv)) (0, 0) _ rfl r1 Try.underlying38 rfl (by kernel_rfl)) rfl ?_
        exact ⟨_, _, rfl, r2, r3, r4⟩
      · skip
        go_simp
        refine (unhide I3).mono ?_
        rintro e w4 ⟨j, hj, rfl, hc3, hg3⟩
        have hjb := cuts_bd ⟨j, hj⟩
        simp only at hjb
        generalize nAt [0, 100, 255] j = kk at hjb ⊢
        obtain ⟨k0, k1⟩ := hjb
        obtain ⟨k, rfl⟩ := Int.eq_ofNat_of_zero_le k0
        have D5 := hide ((unhide D4).draw hc3 hg3)
        refine hK _ _ ?_
        clear hK K2 hc3 hg3 I3 hj
        have hkc : (k : Int) ≤ (cm : Int) := by have := (unhide DD).ml; have := unhide LM; omega
        have hkc2 : k ≤ cm := by omega
        refine wpAny_ready (rs := [1]) (by kernel_rfl) (by simp) ?_
        refine AllReady.cons rfl (fun K2 hK => ?_) (AllReady.nil)
        have o0 := row_cell5 (unhide D5).r5 (unhide EM) (unhide DD).ml
        go_simp
        clear o0
        refine hK _ _ ?_
        clear hK K2
        refine wpAny_take (i := 5) (v := .slice (some ⟨gm, 0, none⟩) k cm) rfl (by kernel_rfl) (by kernel_rfl) (by kernel_rfl) (fun _ _ _ h => h) (Or.inl ⟨by rfl, fun w => ?_⟩) ?_
        · go_simp
        go_simp
        refine wpAny_take (i := 6) (v := .pointer (some ⟨w1.heap.size, 0, none⟩)) rfl (by kernel_rfl) (by kernel_rfl) (by kernel_rfl) (fun _ _ _ h => h) (Or.inl ⟨by rfl, fun w => ?_⟩) ?_
        · go_simp
        go_simp
        refine wpAny_ready (rs := [7]) (by kernel_rfl) (by simp) ?_
        refine AllReady.cons rfl (fun K2 hK => ?_) (AllReady.nil)
        have o0 := row_m (unhide D5).r5
        have f0 := row_fz (unhide D5).r5 0
        go_simp
        clear o0 f0
        refine hK _ _ ?_
        clear hK K2
        have FF := hide ((unhide D5).put5 0 (.slice (some ⟨gm, 0, none⟩) k cm) ({ y with m := ⟨some ⟨gm, 0, none⟩, k, cm⟩ } : Mv) ⟨d.m.take k, d.r, d.i, d.o⟩ rfl (Am.ofM ((unhide D5).own5 0 _) (unhide DD) (s := ⟨some ⟨gm, 0, none⟩, k, cm⟩) (by have h := ((unhide D5).own5 0 (.slice (some ⟨gm, 0, none⟩) k cm)).rd.m; rw [unhide EM] at h; exact rdN_take h k) (by have := (unhide DD).ml; simp; omega) (by have := (unhide DD).ml; simp; omega) (fun h => by cases h) (los_take (by have h := (unhide D5).own.m.los; rw [unhide EM] at h; exact h))))
        refine wpAny_done (by kernel_rfl) ?_ _
        go_wp2_with (first | (refine wpList_load_row rfl 38 _ rfl w1.heap.size rfl 38 (Mv.cs ({ y with m := ⟨some ⟨gm, 0, none⟩, k, cm⟩ } : Mv)) (0, 0) _ (unhide FF).r5 Try.underlying38 rfl (by kernel_rfl) ?_) | (refine wpList_store_row rfl 38 _ _ rfl w.heap.size (Mv.cs ({ y with m := ⟨some ⟨gm, 0, none⟩, k, cm⟩ } : Mv)) rfl rfl 38 zMv.cs (unhide FF).er.re (by kernel_rfl) rfl (Mv.cs_one _) ?_))
        obtain ⟨r1, r2, r3, r4⟩ := (unhide FF).done
        refine bodyPost_ret (results_cell_row (P := Try.prog) rfl _ _ w.heap.size 38 (Mv.cs ({ y with m := ⟨some ⟨gm, 0, none⟩, k, cm⟩ } : Mv)) (0, 0) _ rfl r1 Try.underlying38 rfl (by kernel_rfl)) rfl ?_
        exact ⟨_, _, rfl, r2, r3, r4⟩
  by_cases q1 : v = 1
  · subst q1
    clear hv0 hv1
    have C0 := hide (row_cell6 (unhide D2).r5 (unhide ERR) (unhide DD).rl)
    have D3 := hide ((unhide D2).later below_drew)
    go_wp2_with fail
    refine wp_region_held_drew (S := fun v => v.cell? ⟨w1.heap.size, 1, none⟩ = some (.slice (some ⟨gr, 0, none⟩) 8 cr)) (by kernel_rfl) (unhide C0) (fun hS => ?_)
    have HS := hide hS
    clear hS D2 C0
    generalize w2.drew = wd at D3 HS ⊢
    refine wpAnyH_take (i := 0) (v := .pointer (some ⟨w1.heap.size, 1, none⟩)) rfl (by kernel_rfl) (by kernel_rfl) (by kernel_rfl) (fun _ _ _ h => h) (Or.inl ⟨by rfl, fun w hc => ?_⟩) (unhide HS) ?_
    · clear hc; go_simp
    go_simp
    refine wpAnyH_take (i := 1) (v := .slice (some ⟨gr, 0, none⟩) 8 cr) rfl (by kernel_rfl) (by kernel_rfl) (by kernel_rfl) (fun _ _ _ h => h) (Or.inl ⟨by rfl, fun w hc => ?_⟩) (unhide HS) ?_
    · go_simp
    go_simp
    refine wpAnyH_take (i := 2) (v := .pointer (some ⟨cb, 0, none⟩)) rfl (by kernel_rfl) (by kernel_rfl) (by kernel_rfl) (fun _ _ _ h => h) (Or.inl ⟨by rfl, fun w hc => ?_⟩) (unhide HS) ?_
    · clear hc; go_simp
    go_simp
    refine wpAnyH_take (i := 4) (v := .pointer (some ⟨cb, 0, none⟩)) rfl (by kernel_rfl) (by kernel_rfl) (by kernel_rfl) (fun _ _ _ h => h) (Or.inl ⟨by rfl, fun w hc => ?_⟩) (unhide HS) ?_
    · clear hc; go_simp
    go_simp
    refine wpAnyH_ready (rs := [3, 5]) (by kernel_rfl) (by simp) ?_
    refine AllReadyH.cons rfl (fun K2 hK => ?_) (AllReadyH.cons rfl (fun K2 hK => ?_) AllReadyH.nil)
    · skip
      have B3 := hide (below_any cb a len cap xs 8 wd (by omega) (unhide D3).cur)
      go_simp
      refine (unhide B3).mono ?_
      rintro e w4 ⟨z, hz0, hz1, rfl, hc3, hg3⟩
      obtain ⟨z0, z1⟩ := hz0 (by omega)
      obtain ⟨zn, rfl⟩ := Int.eq_ofNat_of_zero_le z0
      have D4 := hide ((unhide D3).draw hc3 hg3)
      refine hK.out _ _ (row_cell6 (unhide D4).r5 (unhide ERR) (unhide DD).rl) (fun hS => ?_)
      clear HS
      have HS := hide hS
      clear hS hK K2 D3 hc3 hg3 B3 hz0 hz1
      have I6 := hide (int_lit cb a len cap xs w4 (unhide D4).cur [-1, 65536, 65535] 3 rfl (by omega) (by omega) w4.heap.size rfl _ rfl)
      have D5 := hide ((unhide D4).later (below_new w4 (.cells #[.int .i64 (-1), .int .i64 65536, .int .i64 65535] 3)))
      refine wpAnyH_ready (rs := [5]) (by kernel_rfl) (by simp) ?_
      refine AllReadyH.cons rfl (fun K2 hK => ?_) AllReadyH.nil
      go_simp
      refine hK.out _ _ (row_cell6 (unhide D5).r5 (unhide ERR) (unhide DD).rl) (fun hS => ?_)
      clear HS
      have HS := hide hS
      clear hS hK K2 D4
      refine wpAnyH_ready (rs := [6]) (by kernel_rfl) (by simp) ?_
      refine AllReadyH.cons rfl (fun K2 hK => ?_) AllReadyH.nil
      go_simp
      refine (unhide I6).mono ?_
      rintro e w6 ⟨j, hj, rfl, hc3, hg3⟩
      generalize nAt [-1, 65536, 65535] j = x
      have D6 := hide ((unhide D5).draw hc3 hg3)
      refine hK.out _ _ (row_cell6 (unhide D6).r5 (unhide ERR) (unhide DD).rl) (fun hS => ?_)
      clear HS
      have HS := hide hS
      clear hS hK K2 D5 hc3 hg3 I6 hj
      have hzi : (zn : Int) < 8 := by omega
      have hzn : zn < 8 := by omega
      refine wpAnyH_take (i := 7) (v := .pointer (some ⟨gr, zn, none⟩)) rfl (by kernel_rfl) (by kernel_rfl) (by kernel_rfl) (fun _ _ _ h => h) (Or.inl ⟨by rfl, fun w hc => ?_⟩) (unhide HS) ?_
      · clear hc; go_simp
      go_simp
      obtain ⟨c1, c2⟩ := (unhide D6).cellR (unhide ERR) zn (by have := (unhide DD).rl; omega)
      have D7 := hide ((unhide D6).setR (unhide ERR) zn x (by have := (unhide DD).rl; omega))
      refine wpAnyH_ready (rs := [8]) (by kernel_rfl) (by simp) ?_
      refine AllReadyH.cons rfl (fun K2 hK => ?_) AllReadyH.nil
      go_simp
      clear c1 c2
      refine hK.out _ _ (row_cell6 (unhide D7).r5 (unhide ERR) (unhide DD).rl) (fun hS => ?_)
      clear HS
      have HS := hide hS
      clear hS hK K2 D6
      refine wpAnyH_done (by kernel_rfl) ?_ _
      clear HS
      have FF := hide ((unhide D7).fa ⟨(unhide DD).small.1, by have := (unhide DD).rl; simp; omega, (unhide DD).small.2.2⟩ (by have := (unhide DD).rl; simp; omega))
      go_wp2_with (first | (refine wpList_load_row rfl 38 _ rfl w1.heap.size rfl 38 (Mv.cs y) (0, 0) _ (unhide FF).r5 Try.underlying38 rfl (by kernel_rfl) ?_) | (refine wpList_store_row rfl 38 _ _ rfl w.heap.size (Mv.cs y) rfl rfl 38 zMv.cs (unhide FF).er.re (by kernel_rfl) rfl (Mv.cs_one _) ?_))
      obtain ⟨r1, r2, r3, r4⟩ := (unhide FF).done
      refine bodyPost_ret (results_cell_row (P := Try.prog) rfl _ _ w.heap.size 38 (Mv.cs y) (0, 0) _ rfl r1 Try.underlying38 rfl (by kernel_rfl)) rfl ?_
      exact ⟨_, _, rfl, r2, r3, r4⟩
    · skip
      have D4 := hide ((unhide D3).later (below_new wd (.cells #[.int .i64 (-1), .int .i64 65536, .int .i64 65535] 3)))
      have RL := hide (RdN_lit wd [-1, 65536, 65535])
      have NE := hide (show wd.heap.size ≠ cb by have := (unhide D3).cur.lt; omega)
      go_simp
      refine hK.out _ _ (row_cell6 (unhide D4).r5 (unhide ERR) (unhide DD).rl) (fun hS => ?_)
      clear HS
      have HS := hide hS
      clear hS hK K2 D3
      refine wpAnyH_ready (rs := [3]) (by kernel_rfl) (by simp) ?_
      refine AllReadyH.cons rfl (fun K2 hK => ?_) AllReadyH.nil
      have B3 := hide (below_any cb a len cap xs 8 _ (by omega) (unhide D4).cur)
      go_simp
      refine (unhide B3).mono ?_
      rintro e w5 ⟨z, hz0, hz1, rfl, hc3, hg3⟩
      obtain ⟨z0, z1⟩ := hz0 (by omega)
      obtain ⟨zn, rfl⟩ := Int.eq_ofNat_of_zero_le z0
      have D5 := hide ((unhide D4).draw hc3 hg3)
      have RM := hide ((unhide RL).past hg3 (fun ad e => by cases e; exact unhide NE))
      refine hK.out _ _ (row_cell6 (unhide D5).r5 (unhide ERR) (unhide DD).rl) (fun hS => ?_)
      clear HS
      have HS := hide hS
      clear hS hK K2 D4 hc3 hg3 B3 hz0 hz1
      have I6 := hide (int_any cb a len cap xs (some ⟨wd.heap.size, 0, none⟩) 3 3 [-1, 65536, 65535] w5 (unhide D5).cur (unhide RM) (fun ad e => by cases e; exact unhide NE) rfl (by omega) (by omega))
      refine wpAnyH_ready (rs := [6]) (by kernel_rfl) (by simp) ?_
      refine AllReadyH.cons rfl (fun K2 hK => ?_) AllReadyH.nil
      go_simp
      refine (unhide I6).mono ?_
      rintro e w6 ⟨j, hj, rfl, hc3, hg3⟩
      generalize nAt [-1, 65536, 65535] j = x
      have D6 := hide ((unhide D5).draw hc3 hg3)
      refine hK.out _ _ (row_cell6 (unhide D6).r5 (unhide ERR) (unhide DD).rl) (fun hS => ?_)
      clear HS
      have HS := hide hS
      clear hS hK K2 D5 hc3 hg3 I6 hj
      have hzi : (zn : Int) < 8 := by omega
      have hzn : zn < 8 := by omega
      refine wpAnyH_take (i := 7) (v := .pointer (some ⟨gr, zn, none⟩)) rfl (by kernel_rfl) (by kernel_rfl) (by kernel_rfl) (fun _ _ _ h => h) (Or.inl ⟨by rfl, fun w hc => ?_⟩) (unhide HS) ?_
      · clear hc; go_simp
      go_simp
      obtain ⟨c1, c2⟩ := (unhide D6).cellR (unhide ERR) zn (by have := (unhide DD).rl; omega)
      have D7 := hide ((unhide D6).setR (unhide ERR) zn x (by have := (unhide DD).rl; omega))
      refine wpAnyH_ready (rs := [8]) (by kernel_rfl) (by simp) ?_
      refine AllReadyH.cons rfl (fun K2 hK => ?_) AllReadyH.nil
      go_simp
      clear c1 c2
      refine hK.out _ _ (row_cell6 (unhide D7).r5 (unhide ERR) (unhide DD).rl) (fun hS => ?_)
      clear HS
      have HS := hide hS
      clear hS hK K2 D6
      refine wpAnyH_done (by kernel_rfl) ?_ _
      clear HS
      have FF := hide ((unhide D7).fa ⟨(unhide DD).small.1, by have := (unhide DD).rl; simp; omega, (unhide DD).small.2.2⟩ (by have := (unhide DD).rl; simp; omega))
      go_wp2_with (first | (refine wpList_load_row rfl 38 _ rfl w1.heap.size rfl 38 (Mv.cs y) (0, 0) _ (unhide FF).r5 Try.underlying38 rfl (by kernel_rfl) ?_) | (refine wpList_store_row rfl 38 _ _ rfl w.heap.size (Mv.cs y) rfl rfl 38 zMv.cs (unhide FF).er.re (by kernel_rfl) rfl (Mv.cs_one _) ?_))
      obtain ⟨r1, r2, r3, r4⟩ := (unhide FF).done
      refine bodyPost_ret (results_cell_row (P := Try.prog) rfl _ _ w.heap.size 38 (Mv.cs y) (0, 0) _ rfl r1 Try.underlying38 rfl (by kernel_rfl)) rfl ?_
      exact ⟨_, _, rfl, r2, r3, r4⟩
  by_cases q2 : v = 2
  · subst q2
    clear hv0 hv1
    have o1 := row_cell6 (unhide D2).r5 (unhide ERR) (unhide DD).rl
    have f1 := row_fz (unhide D2).r5 1
    have h7 : (7 : Int) ≤ (cr : Int) := by have := (unhide DD).rl; have := unhide LR; omega
    have h7n : 7 ≤ cr := by omega
    have FF := hide ((unhide D2).put5 1 (.slice (some ⟨gr, 0, none⟩) 7 cr) ({ y with r := ⟨some ⟨gr, 0, none⟩, 7, cr⟩ } : Mv) ⟨d.m, d.r.take 7, d.i, d.o⟩ rfl (Am.ofR ((unhide D2).own5 1 _) (unhide DD) (s := ⟨some ⟨gr, 0, none⟩, 7, cr⟩) (by have h := ((unhide D2).own5 1 (.slice (some ⟨gr, 0, none⟩) 7 cr)).rd.r; rw [unhide ERR] at h; exact rdN_take h 7) (by have := (unhide DD).rl; simp; omega) (by have := (unhide DD).rl; simp; omega) (fun h => by cases h) (los_take (by have h := (unhide D2).own.r.los; rw [unhide ERR] at h; exact h))))
    go_wp2_with (first | (refine wpList_load_row rfl 38 _ rfl w1.heap.size rfl 38 (Mv.cs ({ y with r := ⟨some ⟨gr, 0, none⟩, 7, cr⟩ } : Mv)) (0, 0) _ (unhide FF).r5 Try.underlying38 rfl (by kernel_rfl) ?_) | (refine wpList_store_row rfl 38 _ _ rfl w.heap.size (Mv.cs ({ y with r := ⟨some ⟨gr, 0, none⟩, 7, cr⟩ } : Mv)) rfl rfl 38 zMv.cs (unhide FF).er.re (by kernel_rfl) rfl (Mv.cs_one _) ?_))
    obtain ⟨r1, r2, r3, r4⟩ := (unhide FF).done
    refine bodyPost_ret (results_cell_row (P := Try.prog) rfl _ _ w.heap.size 38 (Mv.cs ({ y with r := ⟨some ⟨gr, 0, none⟩, 7, cr⟩ } : Mv)) (0, 0) _ rfl r1 Try.underlying38 rfl (by kernel_rfl)) rfl ?_
    exact ⟨_, _, rfl, r2, r3, r4⟩
  by_cases q3 : v = 3
  · subst q3
    clear hv0 hv1
    have I3 := hide (int_lit cb a len cap xs w2 (unhide D2).cur [-1, 1, 2, 3] 4 rfl (by omega) (by omega) w2.heap.size rfl _ rfl)
    go_wp2_with fail
    refine (unhide I3).mono ?_
    rintro e w4 ⟨j, hj, rfl, hc3, hg3⟩
    generalize nAt [-1, 1, 2, 3] j = x
    have D5 := hide (((unhide D2).later (below_new w2 _)).draw hc3 hg3)
    clear hc3 hg3 I3 hj D2
    have o8 := row_st (unhide D5).r5
    have f8 := row_fz (unhide D5).r5 8
    have FF := hide (((unhide D5).setF 8 (.int .i64 x) { y with st := x } rfl rfl rfl rfl rfl).fa (unhide DD).small (by have := (unhide DD).rl; omega))
    go_wp2_with (first | (refine wpList_load_row rfl 38 _ rfl w1.heap.size rfl 38 (Mv.cs { y with st := x }) (0, 0) _ (unhide FF).r5 Try.underlying38 rfl (by kernel_rfl) ?_) | (refine wpList_store_row rfl 38 _ _ rfl w.heap.size (Mv.cs { y with st := x }) rfl rfl 38 zMv.cs (unhide FF).er.re (by kernel_rfl) rfl (Mv.cs_one _) ?_))
    obtain ⟨r1, r2, r3, r4⟩ := (unhide FF).done
    refine bodyPost_ret (results_cell_row (P := Try.prog) rfl _ _ w.heap.size 38 (Mv.cs { y with st := x }) (0, 0) _ rfl r1 Try.underlying38 rfl (by kernel_rfl)) rfl ?_
    exact ⟨_, _, rfl, r2, r3, r4⟩
  by_cases q4 : v = 4
  · subst q4
    clear hv0 hv1
    have B3 := hide (below_any cb a len cap xs 2 w2 (by omega) (unhide D2).cur)
    go_wp2_with fail
    refine (unhide B3).mono ?_
    rintro e w4 ⟨z, hz0, hz1, rfl, hc3, hg3⟩
    obtain ⟨z0, z1⟩ := hz0 (by omega)
    obtain ⟨zn, rfl⟩ := Int.eq_ofNat_of_zero_le z0
    have D5 := hide (((unhide D2).draw hc3 hg3).later (below_new w4 (.cells (zA (50 + zn)) 3)))
    have NG := hide (row_lt ((unhide D2).draw hc3 hg3).r5)
    have s4 : w.heap.size < w4.heap.size := row_lt ((unhide D2).draw hc3 hg3).er.re
    clear hc3 hg3 B3 hz0 hz1 D2
    have hmk := run_make_row' (P := Try.prog) 36 3 (.int .i64 0) 8 Try.underlying36 info3 rfl .i64 .i64 (50 + zn) (by omega) (by omega)
    have hma : madeCells #[Value.int .i64 0] (50 + zn) = zA (50 + zn) := by
      obtain rfl | rfl : zn = 0 ∨ zn = 1 := by omega
      all_goals kernel_rfl
    rw [hma] at hmk
    rw [show ((50 + zn : Nat) : Int) = 50 + (zn : Int) by omega] at hmk
    have hw1 : IntKind.i64.wrap (50 + (zn : Int)) = 50 + (zn : Int) := by rw [IntKind.wrap_i64]; omega
    have OW := hide (own_made (B := w.heap.size + 1) (n := 50 + zn) (heap_alloc_last w4 (.cells (zA (50 + zn)) 3)) (by omega) (by omega))
    have o7 := row_o (unhide D5).r5
    have f7 := row_fz (unhide D5).r5 7
    have FF := hide ((unhide D5).put5 7 (.slice (some ⟨w4.heap.size, 0, none⟩) (50 + zn) (50 + zn)) { y with o := ⟨some ⟨w4.heap.size, 0, none⟩, 50 + zn, 50 + zn⟩ } ⟨d.m, d.r, d.i, List.replicate (50 + zn) 0⟩ rfl (Am.ofO ((unhide D5).own5 7 _) (unhide DD) (s := ⟨some ⟨w4.heap.size, 0, none⟩, 50 + zn, 50 + zn⟩) ((OwnN.rd1 (unhide OW)).put (.inr (fun ad e => by cases e; have := unhide NG; show w4.heap.size ≠ w1.heap.size; omega))) (by simp) (by simp; omega) (fun h => by cases h) (.inr (fun ad e => by cases e; show w.heap.size + 1 ≤ w4.heap.size; omega))))
    clear hma
    go_wp2_with (first | (refine wpList_load_row rfl 38 _ rfl w1.heap.size rfl 38 (Mv.cs { y with o := ⟨some ⟨w4.heap.size, 0, none⟩, 50 + zn, 50 + zn⟩ }) (0, 0) _ (unhide FF).r5 Try.underlying38 rfl (by kernel_rfl) ?_) | (refine wpList_store_row rfl 38 _ _ rfl w.heap.size (Mv.cs { y with o := ⟨some ⟨w4.heap.size, 0, none⟩, 50 + zn, 50 + zn⟩ }) rfl rfl 38 zMv.cs (unhide FF).er.re (by kernel_rfl) rfl (Mv.cs_one _) ?_))
    obtain ⟨r1, r2, r3, r4⟩ := (unhide FF).done
    refine bodyPost_ret (results_cell_row (P := Try.prog) rfl _ _ w.heap.size 38 (Mv.cs { y with o := ⟨some ⟨w4.heap.size, 0, none⟩, 50 + zn, 50 + zn⟩ }) (0, 0) _ rfl r1 Try.underlying38 rfl (by kernel_rfl)) rfl ?_
    exact ⟨_, _, rfl, r2, r3, r4⟩
  by_cases q5 : v = 5
  · subst q5
    clear hv0 hv1
    have D5 := hide ((unhide D2).later (below_new w2 (.cells #[.int .i64 (-1)] 3)))
    have NG := hide (row_lt (unhide D2).r5)
    have s4 : w.heap.size < w2.heap.size := row_lt (unhide D2).er.re
    have RL := hide (RdN_lit w2 [-1])
    have o6 := row_i (unhide D5).r5
    have f6 := row_fz (unhide D5).r5 6
    have FF := hide ((unhide D5).put5 6 (.slice (some ⟨w2.heap.size, 0, none⟩) 1 1) { y with i := ⟨some ⟨w2.heap.size, 0, none⟩, 1, 1⟩ } ⟨d.m, d.r, [-1], d.o⟩ rfl (Am.ofI ((unhide D5).own5 6 _) (unhide DD) (s := ⟨some ⟨w2.heap.size, 0, none⟩, 1, 1⟩) ((show RdN (w2.alloc (.cells #[.int .i64 (-1)] 3)) (some ⟨w2.heap.size, 0, none⟩) [-1] from unhide RL).put (.inr (fun ad e => by cases e; have := unhide NG; show w2.heap.size ≠ w1.heap.size; omega))) rfl (by simp) (fun h => by cases h) (.inr (fun ad e => by cases e; show w.heap.size + 1 ≤ w2.heap.size; omega))))
    go_wp2_with (first | (refine wpList_load_row rfl 38 _ rfl w1.heap.size rfl 38 (Mv.cs { y with i := ⟨some ⟨w2.heap.size, 0, none⟩, 1, 1⟩ }) (0, 0) _ (unhide FF).r5 Try.underlying38 rfl (by kernel_rfl) ?_) | (refine wpList_store_row rfl 38 _ _ rfl w.heap.size (Mv.cs { y with i := ⟨some ⟨w2.heap.size, 0, none⟩, 1, 1⟩ }) rfl rfl 38 zMv.cs (unhide FF).er.re (by kernel_rfl) rfl (Mv.cs_one _) ?_))
    obtain ⟨r1, r2, r3, r4⟩ := (unhide FF).done
    refine bodyPost_ret (results_cell_row (P := Try.prog) rfl _ _ w.heap.size 38 (Mv.cs { y with i := ⟨some ⟨w2.heap.size, 0, none⟩, 1, 1⟩ }) (0, 0) _ rfl r1 Try.underlying38 rfl (by kernel_rfl)) rfl ?_
    exact ⟨_, _, rfl, r2, r3, r4⟩
  have p0 := eqB_f _ _ q0
  have p1 := eqB_f _ _ q1
  have p2 := eqB_f _ _ q2
  have p3 := eqB_f _ _ q3
  have p4 := eqB_f _ _ q4
  have p5 := eqB_f _ _ q5
  have FF := hide ((unhide D2).fa (unhide DD).small (by have := (unhide DD).rl; omega))
  go_wp2_with (first | (refine wpList_load_row rfl 38 _ rfl w1.heap.size rfl 38 (Mv.cs y) (0, 0) _ (unhide FF).r5 Try.underlying38 rfl (by kernel_rfl) ?_) | (refine wpList_store_row rfl 38 _ _ rfl w.heap.size (Mv.cs y) rfl rfl 38 zMv.cs (unhide FF).er.re (by kernel_rfl) rfl (Mv.cs_one _) ?_))
  obtain ⟨r1, r2, r3, r4⟩ := (unhide FF).done
  refine bodyPost_ret (results_cell_row (P := Try.prog) rfl _ _ w.heap.size 38 (Mv.cs y) (0, 0) _ rfl r1 Try.underlying38 rfl (by kernel_rfl)) rfl ?_
  exact ⟨_, _, rfl, r2, r3, r4⟩
end Go.Proofs.Ytjpbjbnialehbaa

namespace Go.Proofs.Ytjpbjbnialehbaa
open Go.ChangeShapes Go.WideShapes Go.ChangeAt Go.RowKit
set_option linter.unusedVariables false
set_option maxRecDepth 8000
set_option linter.unusedSimpArgs false
/-- One answer's place, while draws go on. -/
structure Bo (w wr : World) : Prop where
  rm : wr.heap[w.heap.size]? = some (.cells zMv.cs 38 (0, 0))
  bel : Below w.heap.size w wr
  sz : w.heap.size + 1 ≤ wr.heap.size
section
variable {w wr w' : World}
theorem bo_new (w : World) : Bo w (w.alloc (.cells zMv.cs 38)) := ⟨heap_alloc_last w _, below_new w _, by simp⟩
theorem Bo.later (h : Bo w wr) (hb : Below wr.heap.size wr w') : Bo w w' := ⟨row_lat h.rm hb, h.bel.trans (hb.mono h.bel.size), Nat.le_trans h.sz hb.size⟩
theorem Bo.past (h : Bo w wr) {cb : Nat} (hg : wr.grownBy w' (some cb)) (hc : w.heap.size + 1 ≤ cb) : Bo w w' :=
  ⟨row_past h.rm hg (by omega), h.bel.grown hg h.bel.size (fun k e => by cases e; omega), Nat.le_trans h.sz hg.size⟩
theorem Bo.done (h : Bo w wr) (cs : Array Value) : (wr.setRow w.heap.size cs).heap[w.heap.size]? = some (.cells cs 38 (0, 0)) ∧ Below w.heap.size w (wr.setRow w.heap.size cs) :=
  ⟨setRow_heap _ _ _ _ 38 _ h.rm, below_setRow h.bel (by omega) _⟩
end
theorem results_row3 {P : Program} {fn : Func} {p u v : Tmp} {ty : TypeId} (h : fn.results = #[.cell p ty, .tmp u, .tmp v]) (tmps : Array Value) (w : World) (g : Nat) (t : TypeId) (cs : Array Value) (fr : Nat × Nat) (d : TypeDesc)
    (hp : tmps.getD p undef = .pointer (some ⟨g, 0, none⟩)) (hg : w.heap[g]? = some (.cells cs t fr))
    (hu : P.underlying ty = some d) (hd : (match d with | .struct _ | .array _ _ => true | _ => false) = true) (hi : (P.info? ty).map (·.size) = some cs.size) :
    (results fn tmps).run P w = .ok (.tuple #[.agg cs, tmps.getD u undef, tmps.getD v undef]) w := by
  have hp' : tmps[p]?.getD undef = .pointer (some ⟨g, 0, none⟩) := by simpa using hp
  simp [results, h, hp', asAddr, run_loadVar_row w g t ty cs fr d hg hu hd hi]
set_option maxRecDepth 100000 in
set_option maxHeartbeats 4000000 in
theorem drawOk_any (a : Option Addr) (len cap : Nat) (xs : List UInt8) (w : World) (hl : xs.length = len) (hm : len ≤ 1048576) (hr : Rd w a xs) :
    Calls Try.prog 17 #[.slice a len cap] w fun e w' => ∃ (x : Mv) (d : Md), e = .returned (.agg x.cs) ∧ Am w' (w.heap.size + 2) x d ∧ Below w.heap.size w w' := by
  have b0 := bo_new w
  have B0 := hide b0
  have P := hide (new_any a len cap xs (w.alloc (.cells zMv.cs 38)) hl hm (hr.later b0.bel))
  rw [show (w.alloc (.cells zMv.cs 38)).heap.size = w.heap.size + 1 by simp] at P
  clear hr b0
  go_enter Try.func17, Try.ntmps17
  go_wp2_with fail
  refine (unhide P).mono ?_
  rintro e w1 ⟨rfl, hc1, hb1⟩
  have C1 := hide hc1
  have B1 := hide ((unhide B0).later (by simpa using hb1))
  clear P hc1 hb1 B0
  have P := hide (any5_any (w.heap.size + 1) a len cap xs w1 (unhide C1))
  go_wp2_with fail
  refine (unhide P).mono ?_
  rintro e w2 ⟨x, d, rfl, am, hc2, hg2⟩
  have C2 := hide hc2
  have A2 := hide (am.base (C := w.heap.size + 2) (by have := (unhide C1).lt; omega))
  have B2 := hide ((unhide B1).past hg2 (Nat.le_refl _))
  clear P am hc2 hg2 B1 C1
  go_wp2_with (refine wpList_store_row rfl 38 _ _ rfl w.heap.size x.cs rfl rfl 38 zMv.cs (unhide B2).rm (by kernel_rfl) rfl (Mv.cs_one _) ?_)
  obtain ⟨r1, r3⟩ := (unhide B2).done x.cs
  refine bodyPost_ret (results_cell_row (P := Try.prog) rfl _ _ w.heap.size 38 x.cs (0, 0) _ rfl r1 Try.underlying38 rfl (by kernel_rfl)) rfl ?_
  exact ⟨x, d, rfl, (unhide A2).row (by omega) _, r3⟩
set_option maxRecDepth 100000 in
set_option maxHeartbeats 4000000 in
theorem drawRead_any (a : Option Addr) (len cap : Nat) (xs : List UInt8) (w : World) (hl : xs.length = len) (hm : len ≤ 1048576) (hr : Rd w a xs) :
    Calls Try.prog 18 #[.slice a len cap] w fun e w' => ∃ (x : Mv) (d : Md) (n : Int), e = .returned (.tuple #[.agg x.cs, .int .i64 n]) ∧ Am w' (w.heap.size + 2) x d ∧ Below w.heap.size w w' := by
  have b0 := bo_new w
  have B0 := hide b0
  have P := hide (new_any a len cap xs (w.alloc (.cells zMv.cs 38)) hl hm (hr.later b0.bel))
  rw [show (w.alloc (.cells zMv.cs 38)).heap.size = w.heap.size + 1 by simp] at P
  clear hr b0
  go_enter Try.func18, Try.ntmps18
  go_wp2_with fail
  refine (unhide P).mono ?_
  rintro e w1 ⟨rfl, hc1, hb1⟩
  have C1 := hide hc1
  have B1 := hide ((unhide B0).later (by simpa using hb1))
  clear P hc1 hb1 B0
  have P := hide (any5_any (w.heap.size + 1) a len cap xs w1 (unhide C1))
  go_wp2_with fail
  refine (unhide P).mono ?_
  rintro e w2 ⟨x, d, rfl, am, hc2, hg2⟩
  have C2 := hide hc2
  have A2 := hide (am.base (C := w.heap.size + 2) (by have := (unhide C1).lt; omega))
  have B2 := hide ((unhide B1).past hg2 (Nat.le_refl _))
  clear P am hc2 hg2 B1 C1
  have P := hide (addr_any (w.heap.size + 1) a len cap xs w2 (unhide C2))
  go_wp2_with fail
  refine (unhide P).mono ?_
  rintro e w3 ⟨n, rfl, hc2, hg2⟩
  have C3 := hide hc2
  have A3 := hide ((unhide A2).past hg2 (fun b e => by cases e; omega))
  have B3 := hide ((unhide B2).past hg2 (Nat.le_refl _))
  clear P hc2 hg2 B2 C2 A2
  go_wp2_with (refine wpList_store_row rfl 38 _ _ rfl w.heap.size x.cs rfl rfl 38 zMv.cs (unhide B3).rm (by kernel_rfl) rfl (Mv.cs_one _) ?_)
  obtain ⟨r1, r3⟩ := (unhide B3).done x.cs
  refine bodyPost_ret (results_row2 (P := Try.prog) rfl _ _ w.heap.size 38 x.cs (0, 0) _ rfl r1 Try.underlying38 rfl (by kernel_rfl)) rfl ?_
  exact ⟨x, d, n, rfl, (unhide A3).row (by omega) _, r3⟩
set_option maxRecDepth 100000 in
set_option maxHeartbeats 4000000 in
theorem drawWrite_any (a : Option Addr) (len cap : Nat) (xs : List UInt8) (w : World) (hl : xs.length = len) (hm : len ≤ 1048576) (hr : Rd w a xs) :
    Calls Try.prog 21 #[.slice a len cap] w fun e w' => ∃ (x : Mv) (d : Md) (n p : Int), e = .returned (.tuple #[.agg x.cs, .int .i64 n, .int .i64 p]) ∧ Am w' (w.heap.size + 2) x d ∧ Below w.heap.size w w' := by
  have b0 := bo_new w
  have B0 := hide b0
  have P := hide (new_any a len cap xs (w.alloc (.cells zMv.cs 38)) hl hm (hr.later b0.bel))
  rw [show (w.alloc (.cells zMv.cs 38)).heap.size = w.heap.size + 1 by simp] at P
  clear hr b0
  go_enter Try.func21, Try.ntmps21
  go_wp2_with fail
  refine (unhide P).mono ?_
  rintro e w1 ⟨rfl, hc1, hb1⟩
  have C1 := hide hc1
  have B1 := hide ((unhide B0).later (by simpa using hb1))
  clear P hc1 hb1 B0
  have P := hide (any5_any (w.heap.size + 1) a len cap xs w1 (unhide C1))
  go_wp2_with fail
  refine (unhide P).mono ?_
  rintro e w2 ⟨x, d, rfl, am, hc2, hg2⟩
  have C2 := hide hc2
  have A2 := hide (am.base (C := w.heap.size + 2) (by have := (unhide C1).lt; omega))
  have B2 := hide ((unhide B1).past hg2 (Nat.le_refl _))
  clear P am hc2 hg2 B1 C1
  have P := hide (addr_any (w.heap.size + 1) a len cap xs w2 (unhide C2))
  go_wp2_with fail
  refine (unhide P).mono ?_
  rintro e w3 ⟨n, rfl, hc2, hg2⟩
  have C3 := hide hc2
  have A3 := hide ((unhide A2).past hg2 (fun b e => by cases e; omega))
  have B3 := hide ((unhide B2).past hg2 (Nat.le_refl _))
  clear P hc2 hg2 B2 C2 A2
  have P := hide (num_any (w.heap.size + 1) a len cap xs w3 (unhide C3))
  go_wp2_with fail
  refine (unhide P).mono ?_
  rintro e w4 ⟨p, rfl, hc2, hg2⟩
  have C4 := hide hc2
  have A4 := hide ((unhide A3).past hg2 (fun b e => by cases e; omega))
  have B4 := hide ((unhide B3).past hg2 (Nat.le_refl _))
  clear P hc2 hg2 B3 C3 A3
  go_wp2_with (refine wpList_store_row rfl 38 _ _ rfl w.heap.size x.cs rfl rfl 38 zMv.cs (unhide B4).rm (by kernel_rfl) rfl (Mv.cs_one _) ?_)
  obtain ⟨r1, r3⟩ := (unhide B4).done x.cs
  refine bodyPost_ret (results_row3 (P := Try.prog) rfl _ _ w.heap.size 38 x.cs (0, 0) _ rfl r1 Try.underlying38 rfl (by kernel_rfl)) rfl ?_
  exact ⟨x, d, n, p, rfl, (unhide A4).row (by omega) _, r3⟩
set_option maxRecDepth 100000 in
set_option maxHeartbeats 4000000 in
theorem drawFlags_any (a : Option Addr) (len cap : Nat) (xs : List UInt8) (w : World) (hl : xs.length = len) (hm : len ≤ 1048576) (hr : Rd w a xs) :
    Calls Try.prog 24 #[.slice a len cap] w fun e w' => ∃ (x : Mv), e = .returned (.agg x.cs) ∧ Below w.heap.size w w' := by
  have b0 := bo_new w
  have B0 := hide b0
  have P := hide (new_any a len cap xs (w.alloc (.cells zMv.cs 38)) hl hm (hr.later b0.bel))
  rw [show (w.alloc (.cells zMv.cs 38)).heap.size = w.heap.size + 1 by simp] at P
  clear hr b0
  go_enter Try.func24, Try.ntmps24
  go_wp2_with fail
  refine (unhide P).mono ?_
  rintro e w1 ⟨rfl, hc1, hb1⟩
  have C1 := hide hc1
  have B1 := hide ((unhide B0).later (by simpa using hb1))
  clear P hc1 hb1 B0
  have P := hide (any5_any (w.heap.size + 1) a len cap xs w1 (unhide C1))
  go_wp2_with fail
  refine (unhide P).mono ?_
  rintro e w2 ⟨x, d, rfl, am, hc2, hg2⟩
  have C2 := hide hc2
  have A2 := hide (am.base (C := w.heap.size + 2) (by have := (unhide C1).lt; omega))
  have B2 := hide ((unhide B1).past hg2 (Nat.le_refl _))
  clear P am hc2 hg2 B1 C1
  have RX := hide (heap_alloc_last w2 (.cells x.cs 38))
  have B3 := hide ((unhide B2).later (below_new w2 (.cells x.cs 38)))
  have C3 := hide ((unhide C2).later (below_new w2 (.cells x.cs 38)))
  have LC := hide (unhide C2).lt
  have LB := hide (unhide B2).sz
  have P := hide (once_any (w.heap.size + 1) a len cap xs 2 _ (by omega) (unhide C3))
  clear B2 C2 A2
  go_wp2_with (refine wpList_store_new rfl 38 _ _ rfl x.cs rfl rfl _ (by kernel_rfl) rfl (Mv.cs_one _) ?_)
  refine (unhide P).mono ?_
  rintro e w4 ⟨b, rfl, hc2, hg2⟩
  have RX4 := hide (row_past (unhide RX) hg2 (by have := unhide LC; omega))
  have B4 := hide ((unhide B3).past hg2 (Nat.le_refl _))
  have rv := row_v (unhide RX4)
  have rf := row_fz (unhide RX4) 4
  have LX := hide (row_lt (unhide RX4))
  have R5 := hide (row_put (unhide RX4) 4 (.bool b) ({ x with v := b } : Mv) rfl)
  have B5 := hide (show Bo w (w4.setCell ⟨w2.heap.size, 4, none⟩ (.bool b)) from ⟨row_keep (unhide B4).rm (by have := unhide LB; omega), (unhide B4).bel.grown (grownBy_set _) (unhide B4).bel.size (fun k e => by cases e; have := unhide LB; omega), by have := (unhide B4).sz; simpa using this⟩)
  clear P hc2 hg2 B3 C3 RX RX4 B4
  go_wp2_with (first | (refine wpList_load_row rfl 38 _ rfl w2.heap.size rfl 38 (Mv.cs { x with v := b }) (0, 0) _ (unhide R5) Try.underlying38 rfl (by kernel_rfl) ?_) | (refine wpList_store_row rfl 38 _ _ rfl w.heap.size (Mv.cs { x with v := b }) rfl rfl 38 zMv.cs (unhide B5).rm (by kernel_rfl) rfl (Mv.cs_one _) ?_))
  obtain ⟨r1, r3⟩ := (unhide B5).done (Mv.cs { x with v := b })
  refine bodyPost_ret (results_cell_row (P := Try.prog) rfl _ _ w.heap.size 38 (Mv.cs { x with v := b }) (0, 0) _ rfl r1 Try.underlying38 rfl (by kernel_rfl)) rfl ?_
  exact ⟨{ x with v := b }, rfl, r3⟩
end Go.Proofs.Ytjpbjbnialehbaa

namespace Go.Proofs.Ytjpbjbnialehbaa
open Go.ChangeShapes Go.WideShapes Go.ChangeAt Go.RowKit
set_option linter.unusedVariables false
set_option maxRecDepth 8000
set_option linter.unusedSimpArgs false
theorem wpList_index_at {P : Program} {ops : Array Oper} {rest : List Oper} {o : Oper} {a : Act} {w : World} {Q : Exit → Act → World → Prop} (hgd : o.guard = none) (xt : TypeId) (x ix : Operand) (ho : o.op = .index xt x ix) (cs : Array Value) (i : Int) (v : Value)
    (hx : a.eval x = .agg cs) (hi : a.eval ix = .int .i64 i) (hr : ∀ w, (Instr.index xt (.agg cs) (.int .i64 i)).run P w = .ok v w) (h : wpList P ops Q rest (a.put o.dst v) w) : wpList P ops Q (o :: rest) a w :=
  wpList_plain hgd fun _ hK => by
    unfold Oper.wp execOp
    simp only [ho, hx, hi, hr, Sem.run_bind, Sem.run_pure, Result.andThen_ok]
    exact hK _ _ h
theorem ixb_0 (a b c d : Bool) (w : World) : (Instr.index 78 (.agg #[.bool a, .bool b, .bool c, .bool d]) (.int .i64 0)).run Try.prog w = .ok (.bool a) w := by kernel_rfl
theorem ixb_1 (a b c d : Bool) (w : World) : (Instr.index 78 (.agg #[.bool a, .bool b, .bool c, .bool d]) (.int .i64 1)).run Try.prog w = .ok (.bool b) w := by kernel_rfl
theorem ixb_2 (a b c d : Bool) (w : World) : (Instr.index 78 (.agg #[.bool a, .bool b, .bool c, .bool d]) (.int .i64 2)).run Try.prog w = .ok (.bool c) w := by kernel_rfl
theorem ixb_3 (a b c d : Bool) (w : World) : (Instr.index 78 (.agg #[.bool a, .bool b, .bool c, .bool d]) (.int .i64 3)).run Try.prog w = .ok (.bool d) w := by kernel_rfl
/-- The flags together. -/
def flQ (n z v c : Bool) : Int := (if n then 8 else 0) + (if z then 4 else 0) + (if v then 2 else 0) + (if c then 1 else 0)
set_option maxHeartbeats 2000000 in
theorem flagsS_any (x : Mv) (w : World) : Calls Try.prog 29 #[.agg x.cs] w fun e w' => e = .returned (.int .i64 (flQ x.n x.z x.v x.c)) ∧ Below w.heap.size w w' := by
  have HB := hide (below_new w (.cells x.cs 38))
  have R0 := heap_alloc_last w (.cells x.cs 38)
  have c2 := row_n R0
  have c3 := row_z R0
  have c4 := row_v R0
  have c5 := row_c R0
  generalize x.n = a at c2 ⊢
  generalize x.z = b at c3 ⊢
  generalize x.v = c at c4 ⊢
  generalize x.c = d at c5 ⊢
  clear R0
  cases a <;> cases b <;> cases c <;> cases d
  all_goals
    go_enter Try.func29, Try.ntmps29
    go_wp2
    go_ret
    exact ⟨rfl, unhide HB⟩
/-- The flags' sum behind so many rounds. -/
def flK (n z v c : Bool) : Nat → Int
  | 0 => 0
  | 1 => if n then 1 else 0
  | 2 => (if n then 2 else 0) + (if z then 1 else 0)
  | 3 => (if n then 4 else 0) + (if z then 2 else 0) + (if v then 1 else 0)
  | _ => flQ n z v c
set_option maxHeartbeats 2000000 in
theorem flagsI_any (x : Mv) (w : World) : Calls Try.prog 28 #[.agg x.cs] w fun e w' => e = .returned (.int .i64 (flQ x.n x.z x.v x.c)) ∧ Below w.heap.size w w' := by
  have HB := hide (below_new w (.cells x.cs 38))
  have R0 := heap_alloc_last w (.cells x.cs 38)
  have c2 := row_n R0
  have c3 := row_z R0
  have c4 := row_v R0
  have c5 := row_c R0
  generalize x.n = a at c2 ⊢
  generalize x.z = b at c3 ⊢
  generalize x.v = c at c4 ⊢
  generalize x.c = d at c5 ⊢
  clear R0
  go_enter Try.func28, Try.ntmps28
  go_wp2
  go_loop [3, 15] (fun n i => ∃ k : Nat, k ≤ 4 ∧ i = .int .i64 k ∧ n = .int .i64 (flK a b c d k)) (fun _ i => 4 - (intOf i).toNat)
  case atStart => exact ⟨0, by omega, rfl, rfl⟩
  case round =>
    obtain ⟨k, hk, rfl, rfl⟩ := hrel
    clear c2 c3 c4 c5
    match k, hk with
    | 0, _ =>
      cases a
      all_goals
        simp only [flK]
        go_wp2_with (refine wpList_index_at rfl 78 _ _ rfl _ 0 _ rfl rfl (ixb_0 _ _ _ _) ?_)
        go_round
        case rel => exact ⟨1, by omega, by go_num, by simp [flK]⟩
        case measure => simp [intOf]
    | 1, _ =>
      cases a <;> cases b
      all_goals
        simp only [flK]
        go_wp2_with (refine wpList_index_at rfl 78 _ _ rfl _ 1 _ rfl rfl (ixb_1 _ _ _ _) ?_)
        go_round
        case rel => exact ⟨2, by omega, by go_num, by simp [flK]⟩
        case measure => simp [intOf]
    | 2, _ =>
      cases a <;> cases b <;> cases c
      all_goals
        simp only [flK]
        go_wp2_with (refine wpList_index_at rfl 78 _ _ rfl _ 2 _ rfl rfl (ixb_2 _ _ _ _) ?_)
        go_round
        case rel => exact ⟨3, by omega, by go_num, by simp [flK]⟩
        case measure => simp [intOf]
    | 3, _ =>
      cases a <;> cases b <;> cases c <;> cases d
      all_goals
        simp only [flK]
        go_wp2_with (refine wpList_index_at rfl 78 _ _ rfl _ 3 _ rfl rfl (ixb_3 _ _ _ _) ?_)
        go_round
        case rel => exact ⟨4, by omega, by go_num, by simp [flK, flQ]⟩
        case measure => simp [intOf]
    | 4, _ =>
      simp only [flK]
      go_wp2
      go_ret
      exact ⟨rfl, unhide HB⟩
end Go.Proofs.Ytjpbjbnialehbaa

namespace Go.Proofs.Ytjpbjbnialehbaa
open Go.ChangeShapes Go.WideShapes Go.ChangeAt Go.RowKit
set_option linter.unusedVariables false
set_option maxRecDepth 8000
set_option linter.unusedSimpArgs false
/-- The bytes that came in, while the law goes on. -/
structure Lc (W wr : World) (a : Option Addr) (xs : List UInt8) : Prop where
  bel : Below W.heap.size W wr
  rd : Rd wr a xs
theorem Lc.later {W w w' : World} {a : Option Addr} {xs : List UInt8} (h : Lc W w a xs) (hb : Below w.heap.size w w') : Lc W w' a xs := ⟨h.bel.trans (hb.mono h.bel.size), h.rd.later hb⟩
/-- A load of a whole row in a guarded place. -/
theorem yields_loadG {P : Program} {ops : Array Oper} {S : World → Prop} {o : Oper} {a : Act} (hw : Region.wanted o (yielded ops a.tmps) = true) (ty : TypeId) (x : Operand) (ho : o.op = .load ty x) (g : Nat) (hx : a.eval x = .pointer (some ⟨g, 0, none⟩)) (t : TypeId) (cs : Array Value) (d : TypeDesc)
    (hS : ∀ w, S w → w.heap[g]? = some (.cells cs t (0, 0))) (hu : P.underlying ty = some d) (hd : (match d with | .struct _ | .array _ _ => true | _ => false) = true) (hi : (P.info? ty).map (·.size) = some cs.size) : YieldsIf P ops S o (.agg cs) a := by
  refine .inl ⟨hw, fun w hw => ?_⟩
  simp only [execOp, ho, hx, Instr.loadAt, Instr.sureAddr, Sem.run_bind, Sem.run_pure, Result.andThen_ok, run_loadVar_row w g t ty cs (0, 0) d (hS w hw) hu hd hi]
end Go.Proofs.Ytjpbjbnialehbaa
