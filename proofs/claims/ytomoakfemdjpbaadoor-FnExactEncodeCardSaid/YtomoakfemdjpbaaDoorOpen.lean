/- An operand and an instruction that came in, read, over this seat's translation; conditions stand as hypotheses of each. -/
import Derived.Test.YtomoakfemdjpbaaDoorInsE
import Derived.Lib.SmallJoins
namespace Go.Proofs.YtomoakfemdjpbaaDoor
open Go.ChangeShapes Go.WideShapes Go.ChangeAt Go.RowKit
set_option linter.unusedVariables false

section
variable {H : Type} {enc : TypeId × Value → H} {W : World} {b0 base : Nat} {spare : TypeId → Bool} {held : Bool}
def Bd64 (x : Int) : Prop := (Lit.int .i64 x).wf = true
theorem trod_od {fuel : Nat} {cs : List Value} {x : DataW H × List MemPlace} (h : DataW.trod enc Tryd.prog W base spare held fuel 40 cs = some x) : ∃ o : Od, cs = [.int .i64 o.m, .int .i64 o.r, .int .i64 o.x] ∧ Bd64 o.m ∧ Bd64 o.r ∧ Bd64 o.x := by
  obtain ⟨y0, y1, y2, n, _, hl, h0, h1, h2⟩ := _root_.Go.Deep.trod_struct3 Tryd.underlying40 h
  have hc : Tryd.prog.cellsOf 40 = 3 := by kernel_rfl
  have hc3 : Tryd.prog.cellsOf 3 = 1 := by kernel_rfl
  rw [hc] at hl
  match cs, hl with
  | [c0, c1, c2], _ =>
    obtain ⟨m, e0, _, w0⟩ := DataW.trod_int Tryd.underlying3 h0
    obtain ⟨r, e1, _, w1⟩ := DataW.trod_int Tryd.underlying3 h1
    obtain ⟨x, e2, _, w2⟩ := DataW.trod_int Tryd.underlying3 h2
    simp only [hc3] at e0 e1 e2
    simp at e0 e1 e2
    subst e0 e1 e2
    exact ⟨⟨m, r, x⟩, rfl, w0, w1, w2⟩
theorem open_od {r : Reach} {v : Value} {d : DataW H} {p : List MemPlace} (hv : Value.okWide Tryd.prog W r b0 40 v) (h : DataW.Trod enc Tryd.prog W base spare held 40 v d p) : ∃ o : Od, v = o.v ∧ Bd64 o.m ∧ Bd64 o.r ∧ Bd64 o.x := by
  obtain ⟨cs, rfl, hsz⟩ := okWide_struct Tryd.underlying40 hv
  obtain ⟨fuel, hf⟩ := h
  obtain ⟨o, hcs, b1, b2, b3⟩ := trod_od hf
  refine ⟨o, ?_, b1, b2, b3⟩
  have : cs.toList = [.int .i64 o.m, .int .i64 o.r, .int .i64 o.x] := by simpa [Value.cells] using hcs
  unfold Od.v
  rw [← Array.toArray_toList (xs := cs), this]
theorem open_is {r : Reach} {v : Value} {d : DataW H} {p : List MemPlace} (hv : Value.okWide Tryd.prog W r b0 42 v) (h : DataW.Trod enc Tryd.prog W base spare held 42 v d p) : ∃ i : Is, v = i.v ∧ Bd64 i.op ∧ (Bd64 i.s.m ∧ Bd64 i.s.r ∧ Bd64 i.s.x) ∧ (Bd64 i.d.m ∧ Bd64 i.d.r ∧ Bd64 i.d.x) ∧ Bd64 i.n := by
  obtain ⟨cs, rfl, hsz⟩ := okWide_struct Tryd.underlying42 hv
  obtain ⟨fuel, hf⟩ := h
  obtain ⟨y0, y1, y2, y3, n, _, hl, h0, h1, h2, h3⟩ := _root_.Go.Joins.trod_struct4 Tryd.underlying42 hf
  have hc : Tryd.prog.cellsOf 42 = 8 := by kernel_rfl
  have hc3 : Tryd.prog.cellsOf 3 = 1 := by kernel_rfl
  have hc40 : Tryd.prog.cellsOf 40 = 3 := by kernel_rfl
  rw [hc] at hsz
  obtain ⟨l⟩ := cs
  match l, hsz with
  | [c0, c1, c2, c3, c4, c5, c6, c7], _ =>
    obtain ⟨op, e0, _, w0⟩ := DataW.trod_int Tryd.underlying3 h0
    obtain ⟨s, e1, w1⟩ := trod_od h1
    obtain ⟨d, e2, w2⟩ := trod_od h2
    obtain ⟨x, e3, _, w3⟩ := DataW.trod_int Tryd.underlying3 h3
    simp only [hc3, hc40] at e0 e1 e2 e3
    simp [Value.cells] at e0 e1 e2 e3
    obtain ⟨rfl, rfl, rfl⟩ := e1
    obtain ⟨rfl, rfl, rfl⟩ := e2
    subst e0 e3
    exact ⟨⟨op, s, d, x⟩, rfl, w0, w1, w2, w3⟩
end
end Go.Proofs.YtomoakfemdjpbaaDoor
