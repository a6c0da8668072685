/- Marks in a machine, and whether they hold; over this seat's translation; conditions stand as hypotheses of each. -/
import Derived.Test.YtboedaofbchdkaaDoorMacO
namespace Go.Proofs.YtboedaofbchdkaaDoor
open Go.ChangeShapes Go.WideShapes Go.ChangeAt Go.RowKit
set_option linter.unusedVariables false
set_option maxRecDepth 8000
set_option linter.unusedSimpArgs false

/-- What is written where a machine is marked from k on. -/
def Md.marks (d : Md) : Md := ⟨markN 1 d.m.length, markN (1 + d.m.length) d.r.length, markN (1 + d.m.length + d.r.length) d.i.length, markN (1 + d.m.length + d.r.length + d.i.length) d.o.length⟩
def Md.tot (d : Md) : Int := (((1 + d.m.length + d.r.length + d.i.length : Nat) : Int)) + (d.o.length : Int)
def Md.small (d : Md) : Prop := d.m.length ≤ 1048576 ∧ d.r.length ≤ 1048576 ∧ d.i.length ≤ 1048576 ∧ d.o.length ≤ 1048576
theorem Md.tot_pos (d : Md) : 0 < d.tot := by unfold Md.tot; omega
/-- The blocks that a machine's lists lie in. -/
def Mv.at (x : Mv) (b : Nat) : Prop := x.m.v.ownBlock = some b ∨ x.r.v.ownBlock = some b ∨ x.i.v.ownBlock = some b ∨ x.o.v.ownBlock = some b
/-- Nothing has turned but what lies in the machine's lists. -/
structure Tch (w w' : World) (x : Mv) : Prop where
  os : w'.os = w.os
  tape : w'.tape = w.tape
  output : w'.output = w.output
  size : w.heap.size ≤ w'.heap.size
  block : ∀ k, k < w.heap.size → ¬ x.at k → w'.heap[k]? = w.heap[k]?
section
variable {w w' w1 : World} {B : Nat} {x y : Mv} {d : Md} {s : Sl} {row : Option Nat}
theorem OwnM.lo (h : OwnM w B x d) {b : Nat} (hb : x.at b) : B ≤ b ∧ b < w.heap.size := by
  rcases hb with hb | hb | hb | hb
  · exact h.m.lt hb
  · exact h.r.lt hb
  · exact h.i.lt hb
  · exact h.o.lt hb
theorem Tch.below (h : Below w.heap.size w w') : Tch w w' x := ⟨h.os, h.tape, h.output, h.size, fun k hk _ => h.block k hk⟩
theorem Tch.grown (h : Tch w w1 x) (hg : w1.grownBy w' row) (hr : ∀ b, row = some b → x.at b) : Tch w w' x :=
  ⟨hg.os.trans h.os, hg.tape.trans h.tape, hg.output.trans h.output, Nat.le_trans h.size hg.size, fun k hk hn => (hg.block k (Nat.lt_of_lt_of_le hk h.size) (fun e => hn (hr k e.symm))).trans (h.block k hk hn)⟩
theorem Tch.toBelow {w0 : World} {C : Nat} (t : Tch w w' x) (h : Below C w0 w) (hC : C ≤ w.heap.size) (hb : ∀ b, x.at b → C ≤ b) : Below C w0 w' :=
  h.trans ⟨t.os, t.tape, t.output, t.size, fun k hk => t.block k (by omega) (fun e => by have := hb k e; omega)⟩
theorem OwnM.keepH (h : OwnM w B x d) (hs : ∀ g, x.at g → g < w.heap.size → w'.heap[g]? = w.heap[g]?) : OwnM w' B x d :=
  { h with m := h.m.keep fun g hv hg => hs g (.inl hv) hg, r := h.r.keep fun g hv hg => hs g (.inr (.inl hv)) hg, i := h.i.keep fun g hv hg => hs g (.inr (.inr (.inl hv))) hg, o := h.o.keep fun g hv hg => hs g (.inr (.inr (.inr hv))) hg }
theorem OwnM.tch (h : OwnM w B y d) (t : Tch w w' x) (hap : ∀ b, y.at b → x.at b → False) : OwnM w' B y d := h.keepH fun g hg hl => t.block g hl (fun e => hap g hg e)
theorem row_tch {g : Nat} {o : Obj} (h : w.heap[g]? = some o) (t : Tch w w' x) (hn : ¬ x.at g) : w'.heap[g]? = some o := (t.block g (row_lt h) hn).trans h
theorem RdM.tch {z : Mv} {e : Md} {W : World} (h : RdM w z e) (hW : RdM W z e) (t : Tch w w' x) (hx : ∀ b, x.at b → W.heap.size ≤ b) : RdM w' z e := by
  have key : ∀ {a : Option Addr} {ns : List Int}, RdN w a ns → RdN W a ns → RdN w' a ns := fun hr hq => by
    rcases hr with h0 | ⟨b, off, rfl, hb, hc⟩
    · exact .inl h0
    · rcases hq with h0 | ⟨b', off', e', hb', _⟩
      · exact .inl h0
      · cases e'
        exact .inr ⟨b, off, rfl, Nat.lt_of_lt_of_le hb t.size, fun i hi => (World.cell?_of_block (w := w) (t.block b hb (fun e => by have := hx b e; omega))).trans (hc i hi)⟩
  exact ⟨key h.m hW.m, key h.r hW.r, key h.i hW.i, key h.o hW.o, h.ml, h.rl, h.il, h.ol⟩
end

end Go.Proofs.YtboedaofbchdkaaDoor
