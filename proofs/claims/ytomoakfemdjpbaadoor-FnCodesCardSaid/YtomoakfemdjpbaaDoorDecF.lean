/- What Decode answers, of a list and a place, as a function; no condition but what stands as hypotheses. -/
import Derived.Test.YtomoakfemdjpbaaDoorDecB
import Derived.Test.YtomoakfemdjpbaaDoorInts
namespace Go.Proofs.YtomoakfemdjpbaaDoor
open Go.ChangeShapes Go.WideShapes Go.ChangeAt Go.RowKit
set_option linter.unusedVariables false
set_option linter.unusedSimpArgs false

def oneX (b : Bool) : Nat := if b = true then 1 else 0
def Is.need (x : Is) : Nat := oneX x.s.hasX + oneX x.d.hasX
/-- The instruction with its words, from the p-th on. -/
def Is.fill (x : Is) (ns : List Int) (p : Nat) : Is :=
  ⟨x.op, ⟨x.s.m, x.s.r, if x.s.hasX = true then nAt ns p else x.s.x⟩, ⟨x.d.m, x.d.r, if x.d.hasX = true then nAt ns (p + oneX x.s.hasX) else x.d.x⟩, x.n⟩
def decIn (ns : List Int) (i : Int) : Bool := inB i 0 ((ns.length : Int) - 1) && inB (nAt ns i.toNat) 0 65535
def decX (ns : List Int) (i : Int) : Is := (dOp (nAt ns i.toNat)).fill ns (i.toNat + 1)
def decOk (ns : List Int) (i : Int) : Bool := decIn ns i && (decide (i.toNat + 1 + (dOp (nAt ns i.toNat)).need ≤ ns.length) && (decX ns i).ok)
def isZ : Is := ⟨0, zO, zO, 0⟩
def decIs (ns : List Int) (i : Int) : Is := if decOk ns i = true then decX ns i else isZ
def decN (ns : List Int) (i : Int) : Int := if decOk ns i = true then 1 + ((dOp (nAt ns i.toNat)).need : Int) else 0
def decV (ns : List Int) (i : Int) : Value := .tuple #[(decIs ns i).v, .int .i64 (decN ns i), .bool (decOk ns i)]
def noV : Value := .tuple #[isZ.v, .int .i64 0, .bool false]
theorem decV_no {ns : List Int} {i : Int} (h : decOk ns i = false) : noV = decV ns i := by
  unfold decV noV decIs decN
  rw [h]
  rfl
theorem decV_yes {ns : List Int} {i : Int} (h : decOk ns i = true) : Value.tuple #[(decX ns i).v, .int .i64 (1 + ((dOp (nAt ns i.toNat)).need : Int)), .bool true] = decV ns i := by
  unfold decV decIs decN
  rw [h]
  rfl
theorem decOk_out {ns : List Int} {i : Int} (h : decIn ns i = false) : decOk ns i = false := by
  unfold decOk
  rw [h]
  rfl
theorem decOk_in {ns : List Int} {i : Int} (h : decIn ns i = true) : decOk ns i = (decide (i.toNat + 1 + (dOp (nAt ns i.toNat)).need ≤ ns.length) && (decX ns i).ok) := by
  unfold decOk
  rw [h]
  rfl
/-- What dOp finds: its operands have no word yet, and are nothing where the Op has none. -/
theorem dOp_form (n : Int) (h0 : 0 ≤ n) (h1 : n ≤ 65535) : ∃ op sm sr dm dr x : Int, dOp n = ⟨op, ⟨sm, sr, 0⟩, ⟨dm, dr, 0⟩, x⟩ ∧ 0 ≤ op ∧ op ≤ 23 ∧ (6 < op → Od.hasX ⟨sm, sr, 0⟩ = false) ∧ (15 < op → Od.hasX ⟨dm, dr, 0⟩ = false) := by
  by_cases hm : ∀ k, 1 ≤ k → k ≤ 23 → ¬ Hit n k
  · exact ⟨0, 0, 0, 0, 0, 0, dOp_miss h0 h1 hm, by omega, by omega, fun _ => rfl, fun _ => rfl⟩
  · simp only [Classical.not_forall, Classical.not_not] at hm
    obtain ⟨k, hk1, hk2, hh⟩ := hm
    rw [dOp_hit hk1 hk2 hh]
    unfold getK
    split
    · exact ⟨_, _, _, _, _, _, rfl, by omega, by omega, fun _ => by omega, fun _ => by omega⟩
    split
    · exact ⟨_, _, _, _, _, _, rfl, by omega, by omega, fun _ => rfl, fun _ => by omega⟩
    split
    · exact ⟨_, _, _, _, _, _, rfl, by omega, by omega, fun _ => rfl, fun _ => by omega⟩
    split
    · exact ⟨_, _, _, _, _, _, rfl, by omega, by omega, fun _ => rfl, fun _ => rfl⟩
    · exact ⟨_, _, _, _, _, _, rfl, by omega, by omega, fun _ => rfl, fun _ => rfl⟩
theorem hasX_x (m r x y : Int) : Od.hasX ⟨m, r, x⟩ = Od.hasX ⟨m, r, y⟩ := rfl

/-- While Decode goes on: its answer's block, and a block that holds an instruction. -/
structure Dz (w wr : World) (bx : Nat) (l : List Int) : Prop where
  rz : Rz w wr [0, 0, 0, 0, 0, 0, 0, 0]
  row : wr.rowIs bx 27 8 (c8 l)
  ne : w.heap.size < bx
theorem Dz.later {w wr w' : World} {bx : Nat} {l : List Int} (h : Dz w wr bx l) (hb : Below wr.heap.size wr w') : Dz w w' bx l := ⟨h.rz.later hb, h.row.of_block (hb.block _ h.row.lt), h.ne⟩
theorem Dz.set {w wr : World} {bx : Nat} {l : List Int} (h : Dz w wr bx l) (k : Nat) (x : Int) (l' : List Int) (he : ∀ j, j < 8 → (if j = k then Value.int .i64 x else c8 l j) = c8 l' j) : Dz w (wr.setCell ⟨bx, k, none⟩ (.int .i64 x)) bx l' :=
  ⟨⟨h.rz.bel.setCell (Nat.le_of_lt h.ne) _, h.rz.row.of_block (Below.heap_setCell _ _ _ _ (Nat.ne_of_lt h.ne))⟩, row8_set h.row k x he, h.ne⟩
theorem dz_new {w wr : World} (h : Rz w wr [0, 0, 0, 0, 0, 0, 0, 0]) (l : List Int) : Dz w (wr.alloc (Obj.cells (cs8 l) 27)) wr.heap.size l :=
  ⟨h.later ((Below.refl _ _).alloc (Nat.le_refl _) _), row8 wr l 27, h.row.lt⟩
end Go.Proofs.YtomoakfemdjpbaaDoor
