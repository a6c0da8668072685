/- A machine copied, and a word written, by the model; over this seat's translation; conditions stand as hypotheses of each. -/
import Derived.Test.YtboedaofbchdkaaDoorMacM
namespace Go.Proofs.YtboedaofbchdkaaDoor
open Go.ChangeShapes Go.WideShapes Go.ChangeAt Go.RowKit
set_option linter.unusedVariables false
set_option maxRecDepth 8000
set_option linter.unusedSimpArgs false

theorem cm_copy0 (w : World) (x : Mv) : Cm w (((w.alloc (.cells x.cs 32)).alloc (.cells zMv.cs 32)).alloc (.cells x.cs 32)) 32 x x := by
  have z1 : (w.alloc (.cells x.cs 32)).heap.size = w.heap.size + 1 := by simp
  have z2 : ((w.alloc (.cells x.cs 32)).alloc (.cells zMv.cs 32)).heap.size = w.heap.size + 1 + 1 := by simp
  have a1 := row_lat (row_lat (heap_alloc_last w (.cells x.cs 32)) (below_new _ (.cells zMv.cs 32))) (below_new _ (.cells x.cs 32))
  have a2 := row_lat (heap_alloc_last (w.alloc (.cells x.cs 32)) (.cells zMv.cs 32)) (below_new _ (.cells x.cs 32))
  have a3 := heap_alloc_last ((w.alloc (.cells x.cs 32)).alloc (.cells zMv.cs 32)) (.cells x.cs 32)
  rw [z1] at a2
  rw [z2] at a3
  exact ⟨a1, a2, a3, (((Below.refl _ _).alloc (Nat.le_refl _) _).alloc (by omega) _).alloc (by omega) _, by simp⟩
theorem cm_copy (w : World) (x : Mv) : Cm w (((w.alloc (.cells x.cs 32)).alloc (.cells #[Value.slice none 0 0, Value.slice none 0 0, Value.bool false, Value.bool false, Value.bool false, Value.bool false, Value.slice none 0 0, Value.slice none 0 0, Value.int .i64 0] 32)).alloc (.cells x.cs 32)) 32 x x := cm_copy0 w x
theorem wpList_store_newG {P : Program} {ops : Array Oper} {rest : List Oper} {o : Oper} {a : Act} {w : World} {Q : Exit → Act → World → Prop} (hgd : o.guard = none) (ty : TypeId) (x y : Operand) (ho : o.op = .store ty x y)
    (cells : Array Value) (g : Nat) (hgz : w.heap.size = g) (hx : a.eval x = .pointer (some ⟨g, 0, none⟩)) (hy : a.eval y = .agg cells) (old : Array Value) (hi : (P.info? ty).map (·.size) = some cells.size)
    (hold : old.size = cells.size) (h1 : cells.all (·.oneCell') = true) (h : wpList P ops Q rest (a.put o.dst undef) (w.alloc (.cells cells ty))) : wpList P ops Q (o :: rest) a (w.alloc (.cells old ty)) := by
  subst hgz
  exact wpList_store_new hgd ty x y ho cells hx hy old hi hold h1 h
theorem Cm.past {w wr w' : World} {tb : TypeId} {x o : Mv} {row : Option Nat} (h : Cm w wr tb x o) (hg : wr.grownBy w' row) (hr : ∀ g, row = some g → w.heap.size + 3 ≤ g) : Cm w w' tb x o :=
  ⟨(hg.block _ (row_lt h.bx) (fun e => by have := hr _ e.symm; omega)).trans h.bx, (hg.block _ (row_lt h.re) (fun e => by have := hr _ e.symm; omega)).trans h.re, (hg.block _ (row_lt h.out) (fun e => by have := hr _ e.symm; omega)).trans h.out, h.bel.grown hg h.bel.size (fun k e => by have := hr _ e; omega), Nat.le_trans h.sz hg.size⟩
theorem RdN.pastR {w w' : World} {a : Option Addr} {ns : List Int} {row : Option Nat} (h : RdN w a ns) (hg : w.grownBy w' row) (hne : ∀ b, row = some b → ns = [] ∨ ∀ ad, a = some ad → ad.block ≠ b) : RdN w' a ns := by
  rcases h with h | ⟨c, off, rfl, hlt, hc⟩
  · exact .inl h
  · by_cases h0 : ns = []
    · exact .inl h0
    exact .inr ⟨c, off, rfl, Nat.lt_of_lt_of_le hlt hg.size, fun i hi => (World.cell?_of_block (w := w) (hg.block c hlt (fun e => by
      rcases hne c e.symm with h1 | h1
      · exact h0 h1
      · exact h1 _ rfl rfl))).trans (hc i hi)⟩
/-- What came in reads on while rows made behind it are written. -/
theorem RdM.pastR {w wr w' : World} {x : Mv} {d : Md} {row : Option Nat} (h : RdM wr x d) (hw : RdM w x d) (hg : wr.grownBy w' row) (hr : ∀ g, row = some g → w.heap.size ≤ g) : RdM w' x d := by
  have key : ∀ {a : Option Addr} {ns : List Int}, RdN w a ns → ∀ b, row = some b → ns = [] ∨ ∀ ad, a = some ad → ad.block ≠ b := fun hr' b e => by
    rcases hr' with h0 | ⟨b', off, rfl, hb', _⟩
    · exact .inl h0
    · exact .inr fun ad e' => by cases e'; have := hr b e; show b' ≠ b; omega
  exact ⟨h.m.pastR hg (key hw.m), h.r.pastR hg (key hw.r), h.i.pastR hg (key hw.i), h.o.pastR hg (key hw.o), h.ml, h.rl, h.il, h.ol⟩
/-- A list of no element, made for a copy. -/
theorem ownN_new (w : World) (B g : Nat) (hg : w.heap.size = g) (hB : B ≤ w.heap.size) : OwnN (w.alloc (.cells #[] 3)) B (.slice (some ⟨g, 0, none⟩) 0 0) [] := by
  subst hg
  exact (ownN_empty w).base hB

end Go.Proofs.YtboedaofbchdkaaDoor
