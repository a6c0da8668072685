/- What stands while a machine is drawn; over this seat's translation; conditions stand as hypotheses of each. -/
import Derived.Test.YtfkmibgamkignaaDrmA
namespace Go.Proofs.Ytfkmibgamkignaa
open Go.ChangeShapes Go.WideShapes Go.ChangeAt Go.RowKit
set_option linter.unusedVariables false
set_option maxRecDepth 8000
set_option linter.unusedSimpArgs false

theorem Wd.set {ns : List Int} (h : Wd ns) (k : Nat) (v : Int) (h0 : 0 ≤ v) (h1 : v ≤ 65535) : Wd (ns.set k v) := fun x hx => by
  rcases List.mem_or_eq_of_mem_set hx with h' | h'
  · exact h x h'
  · omega
theorem wdB_of {ns : List Int} (h : Wd ns) : wdB ns = true := by
  unfold wdB
  rw [List.all_eq_true]
  intro x hx
  have := h x hx
  exact inB_t _ _ _ this
theorem Wd.of {ns : List Int} (h : wdB ns = true) : Wd ns := fun x hx => by
  unfold wdB at h
  rw [List.all_eq_true] at h
  exact inB_b (h x hx)
/-- A machine's lists are right. -/
structure Dk (d : Md) : Prop where
  ml : d.m.length = 256
  mw : Wd d.m
  rl : d.r.length = 8
  rw : Wd d.r
  il : d.i.length ≤ 50
  iw : Wd d.i
  ol : d.o.length ≤ 50
  ow : Wd d.o
theorem Dk.ok {d : Md} (h : Dk d) (st : Int) (h0 : 0 ≤ st) (h1 : st ≤ 2) : d.ok st = true := by
  unfold Md.ok
  rw [h.ml, h.rl, wdB_of h.mw, wdB_of h.rw, wdB_of h.iw, wdB_of h.ow, decide_eq_true (show (d.i.length : Int) ≤ 50 by have := h.il; omega), decide_eq_true (show (d.o.length : Int) ≤ 50 by have := h.ol; omega), inB_t st 0 2 ⟨h0, h1⟩]
  rfl
theorem Dk.setM {d : Md} (h : Dk d) (k : Nat) (v : Int) (h0 : 0 ≤ v) (h1 : v ≤ 65535) : Dk ⟨d.m.set k v, d.r, d.i, d.o⟩ := { h with ml := by simp [h.ml], mw := h.mw.set k v h0 h1 }
theorem Dk.setR {d : Md} (h : Dk d) (k : Nat) (v : Int) (h0 : 0 ≤ v) (h1 : v ≤ 65535) : Dk ⟨d.m, d.r.set k v, d.i, d.o⟩ := { h with rl := by simp [h.rl], rw := h.rw.set k v h0 h1 }
theorem Dk.small {d : Md} (h : Dk d) : d.small := ⟨by have := h.ml; omega, by have := h.rl; omega, by have := h.il; omega, by have := h.ol; omega⟩
theorem wd_z : Wd z256 := fun x hx => by
  unfold z256 at hx
  rw [List.mem_replicate] at hx
  omega
theorem Wd.over {ns im : List Int} (h : Wd ns) (k : Nat) (hi : Wd im) : Wd (over ns k im) := fun x hx => by
  unfold Go.Proofs.Ytfkmibgamkignaa.over at hx
  rcases List.mem_append.1 hx with h1 | h1
  · exact h x (List.mem_of_mem_take h1)
  · rcases List.mem_append.1 h1 with h2 | h2
    · exact hi x h2
    · exact h x (List.mem_of_mem_drop h2)
theorem wd_newR (st : Int) (h0 : 0 ≤ st) (h1 : st ≤ 65535) : Wd (newR st) := fun x hx => by
  unfold newR at hx
  simp at hx
  omega
theorem dk_new {ni nn : List Int} {k : Nat} {st : Int} (hk : k + ni.length ≤ 256) (hi : Wd ni) (hn : Wd nn) (ln : nn.length ≤ 50) (h0 : 0 ≤ st) (h1 : st ≤ 65535) : Dk ⟨over z256 k ni, newR st, nn, []⟩ :=
  ⟨by rw [over_len _ _ _ (by rw [z256_len]; omega), z256_len], wd_z.over k hi, rfl, wd_newR st h0 h1, ln, hn, Nat.zero_le _, fun x hx => by cases hx⟩

/-- The cursor, the answer's place, the machine and its lists, while draws go on. -/
structure Ed (w wr : World) (cb : Nat) (a : Option Addr) (len cap : Nat) (xs : List UInt8) (y : Mv) (g5 : Nat) (d : Md) : Prop where
  cur : Cur wr cb a len cap xs
  gr : w.grownBy wr (some cb)
  re : wr.heap[w.heap.size]? = some (.cells zMv.cs 28 (0, 0))
  r5 : wr.heap[g5]? = some (.cells y.cs 28 (0, 0))
  own : OwnM wr (w.heap.size + 1) y d
  l5 : w.heap.size < g5
  ne : ∀ b, y.at b → b ≠ g5
  lt : cb < w.heap.size
  cd : xs = [] ∨ ∀ ad, a = some ad → ad.block < w.heap.size
section
variable {w wr w' : World} {cb : Nat} {a : Option Addr} {len cap : Nat} {xs : List UInt8} {y : Mv} {g5 gm gr n c : Nat} {d : Md}
theorem Ed.draw (h : Ed w wr cb a len cap xs y g5 d) (hc : Cur w' cb a len cap xs) (hg : wr.grownBy w' (some cb)) : Ed w w' cb a len cap xs y g5 d :=
  { h with
    cur := hc
    gr := grownBy_trans h.gr hg
    re := row_gb h.re hg (fun b e => by cases e; have := h.lt; omega)
    r5 := row_gb h.r5 hg (fun b e => by cases e; have := h.lt; have := h.l5; omega)
    own := h.own.gb hg (fun b e hb => by cases e; have := h.lt; have := (h.own.lo hb).1; omega) }
theorem Ed.later (h : Ed w wr cb a len cap xs y g5 d) (hb : Below wr.heap.size wr w') : Ed w w' cb a len cap xs y g5 d := h.draw (h.cur.later hb) (grownBy_below hb)
theorem Ed.alloc (h : Ed w wr cb a len cap xs y g5 d) (o : Obj) : Ed w (wr.alloc o) cb a len cap xs y g5 d := h.later (below_new _ _)
theorem Ed.write (h : Ed w wr cb a len cap xs y g5 d) {b k : Nat} (hb : w.heap.size < b) (hb5 : b ≠ g5) {v : Value} {d' : Md} (ho : OwnM (wr.setCell ⟨b, k, none⟩ v) (w.heap.size + 1) y d') : Ed w (wr.setCell ⟨b, k, none⟩ v) cb a len cap xs y g5 d' :=
  { h with
    cur := h.cur.past (grownBy_set v) h.lt h.cd (fun g e => by cases e; omega)
    gr := grownBy_own h.gr (grownBy_set v) (fun g e => by cases e; omega)
    re := row_keep h.re (by omega)
    r5 := row_keep h.r5 (fun e => hb5 e.symm)
    own := ho }
theorem Ed.setM (h : Ed w wr cb a len cap xs y g5 d) (hm : y.m = ⟨some ⟨gm, 0, none⟩, n, c⟩) (k : Nat) (v : Int) (hk : k < d.m.length) : Ed w (wr.setCell ⟨gm, k, none⟩ (.int .i64 v)) cb a len cap xs y g5 ⟨d.m.set k v, d.r, d.i, d.o⟩ := by
  have e : y.m.v = .slice (some ⟨gm, 0, none⟩) n c := by rw [hm]; rfl
  have o := h.own.m
  rw [e] at o
  have s := o.set k v hk
  have hat : y.at gm := .inl (by rw [e]; rfl)
  have := h.own.lo hat
  exact h.write (by omega) (h.ne gm hat) (h.own.putM (by rw [e]; exact s.2) (by rw [e]; exact s.1))
theorem Ed.setR (h : Ed w wr cb a len cap xs y g5 d) (hm : y.r = ⟨some ⟨gr, 0, none⟩, n, c⟩) (k : Nat) (v : Int) (hk : k < d.r.length) : Ed w (wr.setCell ⟨gr, k, none⟩ (.int .i64 v)) cb a len cap xs y g5 ⟨d.m, d.r.set k v, d.i, d.o⟩ := by
  have e : y.r.v = .slice (some ⟨gr, 0, none⟩) n c := by rw [hm]; rfl
  have o := h.own.r
  rw [e] at o
  have s := o.set k v hk
  have hat : y.at gr := .inr (.inl (by rw [e]; rfl))
  have := h.own.lo hat
  exact h.write (by omega) (h.ne gr hat) (h.own.putR (by rw [e]; exact s.2) (by rw [e]; exact s.1))
/-- A field of the machine itself written, no list among them. -/
theorem Ed.setF (h : Ed w wr cb a len cap xs y g5 d) (j : Nat) (v : Value) (y' : Mv) (he : y.cs.setIfInBounds j v = y'.cs) (em : y'.m = y.m) (er : y'.r = y.r) (ei : y'.i = y.i) (eo : y'.o = y.o) : Ed w (wr.setCell ⟨g5, j, none⟩ v) cb a len cap xs y' g5 d := by
  have hat : ∀ b, y'.at b → y.at b := fun b hb => by unfold Mv.at at hb ⊢; rw [em, er, ei, eo] at hb; exact hb
  have o2 : OwnM (wr.setCell ⟨g5, j, none⟩ v) (w.heap.size + 1) y d := h.own.keepH fun b hb _ => Below.heap_setCell wr ⟨g5, j, none⟩ v b (h.ne b hb)
  refine { h with cur := h.cur.past (grownBy_set v) h.lt h.cd (fun g e => by cases e; have := h.l5; omega), gr := grownBy_own h.gr (grownBy_set v) (fun g e => by cases e; have := h.l5; omega), re := row_keep h.re (by have := h.l5; omega), r5 := row_put h.r5 j v y' he, own := ?_, ne := fun b hb => h.ne b (hat b hb) }
  obtain ⟨o1, o3, o4, o5, a1, a2, a3, a4, a5, a6⟩ := o2
  exact ⟨by rw [em]; exact o1, by rw [er]; exact o3, by rw [ei]; exact o4, by rw [eo]; exact o5, by rw [em, er]; exact a1, by rw [em, ei]; exact a2, by rw [em, eo]; exact a3, by rw [er, ei]; exact a4, by rw [er, eo]; exact a5, by rw [ei, eo]; exact a6⟩
theorem Ed.cellM (h : Ed w wr cb a len cap xs y g5 d) (hm : y.m = ⟨some ⟨gm, 0, none⟩, n, c⟩) (k : Nat) (hk : k < d.m.length) : wr.cell? ⟨gm, k, none⟩ = some (.int .i64 (nAt d.m k)) ∧ wr.frozen? ⟨gm, k, none⟩ = false := by
  have o := h.own.m
  rw [hm] at o
  exact OwnN.cellAt (b := gm) (n := n) (cap := c) o k hk
theorem Ed.cellR (h : Ed w wr cb a len cap xs y g5 d) (hm : y.r = ⟨some ⟨gr, 0, none⟩, n, c⟩) (k : Nat) (hk : k < d.r.length) : wr.cell? ⟨gr, k, none⟩ = some (.int .i64 (nAt d.r k)) ∧ wr.frozen? ⟨gr, k, none⟩ = false := by
  have o := h.own.r
  rw [hm] at o
  exact OwnN.cellAt (b := gr) (n := n) (cap := c) o k hk
end
end Go.Proofs.Ytfkmibgamkignaa
