/- What the laws' walks stand on: a machine that came in, in its box; loads of whole rows in a region that draws its order; over this seat's translation; conditions stand as hypotheses of each. -/
import Derived.Test.YtboedaofbchdkaaDoorMacE
import Derived.Deep.RegionHeld
namespace Go.Proofs.YtboedaofbchdkaaDoor
open Go.ChangeShapes Go.WideShapes Go.ChangeAt Go.RowKit
set_option linter.unusedVariables false
set_option maxRecDepth 8000
set_option linter.unusedSimpArgs false

theorem small_of {w w' : World} {x y : Mv} {d : Md} (hx : RdM w x d) (hy : RdM w' y d) (h : x.small) : y.small :=
  ⟨by have := h.1; rw [← hy.ml, hx.ml]; exact this, by have := h.2.1; rw [← hy.rl, hx.rl]; exact this, by have := h.2.2.1; rw [← hy.il, hx.il]; exact this, by have := h.2.2.2; rw [← hy.ol, hx.ol]; exact this⟩
/-- What came in, in its box, while the law goes on. -/
structure Lw (W wr : World) (x : Mv) (e : Md) : Prop where
  bx : wr.heap[W.heap.size]? = some (.cells x.cs 38 (0, 0))
  rd : RdM wr x e
  bel : Below W.heap.size W wr
theorem Lw.later {W wr w' : World} {x : Mv} {e : Md} (h : Lw W wr x e) (hb : Below wr.heap.size wr w') : Lw W w' x e :=
  ⟨row_lat h.bx hb, h.rd.later hb, h.bel.trans (hb.mono (by have := h.bel.size; omega))⟩
theorem Lw.lt {W wr : World} {x : Mv} {e : Md} (h : Lw W wr x e) : W.heap.size < wr.heap.size := row_lt h.bx
theorem lw_new {W : World} {x : Mv} {e : Md} (h : RdM W x e) : Lw W (W.alloc (.cells x.cs 38)) x e :=
  ⟨heap_alloc_last W _, h.later ((Below.refl _ _).alloc (Nat.le_refl _) _), (Below.refl _ _).alloc (Nat.le_refl _) _⟩
theorem below_new (w : World) (o : Obj) : Below w.heap.size w (w.alloc o) := (Below.refl _ _).alloc (Nat.le_refl _) _
theorem below_drew {w : World} : Below w.heap.size w w.drew := ⟨rfl, rfl, rfl, Nat.le_refl _, fun _ _ => rfl⟩

theorem wpList_store_new {P : Program} {ops : Array Oper} {rest : List Oper} {o : Oper} {a : Act} {w : World} {Q : Exit → Act → World → Prop} (hgd : o.guard = none) (ty : TypeId) (x y : Operand) (ho : o.op = .store ty x y)
    (cells : Array Value) (hx : a.eval x = .pointer (some ⟨w.heap.size, 0, none⟩)) (hy : a.eval y = .agg cells) (old : Array Value) (hi : (P.info? ty).map (·.size) = some cells.size)
    (hold : old.size = cells.size) (h1 : cells.all (·.oneCell') = true) (h : wpList P ops Q rest (a.put o.dst undef) (w.alloc (.cells cells ty))) : wpList P ops Q (o :: rest) a (w.alloc (.cells old ty)) :=
  wpList_store_row hgd ty x y ho w.heap.size cells hx hy ty old (heap_alloc_last w _) hi hold h1 (by rw [World.setRow_alloc_new]; exact h)

/-- A load of a whole row yields it in every world that keeps the row. -/
theorem yields_load {P : Program} {ops : Array Oper} {S : World → Prop} {o : Oper} {a : Act} (hgd : o.guard = none) (ty : TypeId) (x : Operand) (ho : o.op = .load ty x) (g : Nat) (hx : a.eval x = .pointer (some ⟨g, 0, none⟩)) (t : TypeId) (cs : Array Value) (d : TypeDesc)
    (hS : ∀ w, S w → w.heap[g]? = some (.cells cs t (0, 0))) (hu : P.underlying ty = some d) (hd : (match d with | .struct _ | .array _ _ => true | _ => false) = true) (hi : (P.info? ty).map (·.size) = some cs.size) : YieldsIf P ops S o (.agg cs) a := by
  refine .inl ⟨by simp [Region.wanted, hgd], fun w hw => ?_⟩
  simp only [execOp, ho, hx, Instr.loadAt, Instr.sureAddr, Sem.run_bind, Sem.run_pure, Result.andThen_ok, run_loadVar_row w g t ty cs (0, 0) d (hS w hw) hu hd hi]
end Go.Proofs.YtboedaofbchdkaaDoor
