/- A token that came in, read; over this seat's translation; conditions stand as hypotheses of each. -/
import Derived.Test.YtemglcdglnjakaaTkE
import Derived.Lib.SmallJoins
import Derived.OpenVars
import Derived.Deep.Slices
namespace Go.Proofs.Ytemglcdglnjakaa
open Go.ChangeShapes Go.WideShapes Go.ChangeAt Go.RowKit
set_option linter.unusedVariables false
set_option maxRecDepth 8000

section
variable {H : Type} {enc : TypeId × Value → H} {W : World} {b0 base : Nat} {spare : TypeId → Bool} {held : Bool}
theorem trod_tk {fuel : Nat} {cs : List Value} {x : DataW H × List MemPlace} (h : DataW.trod enc Try.prog W base spare held fuel 44 cs = some x) : ∃ t : Tk, cs = [.int .i64 t.k, .int .i64 t.n, .string t.s] ∧ t.s.size ≤ maxLen := by
  obtain ⟨y0, y1, y2, n, _, hl, h0, h1, h2⟩ := _root_.Go.Deep.trod_struct3 Try.underlying44 h
  have hc : Try.prog.cellsOf 44 = 3 := by kernel_rfl
  have hc3 : Try.prog.cellsOf 3 = 1 := by kernel_rfl
  have hc9 : Try.prog.cellsOf 9 = 1 := by kernel_rfl
  rw [hc] at hl
  match cs, hl with
  | [c0, c1, c2], _ =>
    obtain ⟨m, e0, _, w0⟩ := DataW.trod_int Try.underlying3 h0
    obtain ⟨r, e1, _, w1⟩ := DataW.trod_int Try.underlying3 h1
    obtain ⟨s, e2, _, w2⟩ := DataW.trod_string Try.underlying9 h2
    simp only [hc3, hc9] at e0 e1 e2
    simp at e0 e1 e2
    subst e0 e1 e2
    exact ⟨⟨m, r, s⟩, rfl, w2⟩
theorem open_tk {r : Reach} {v : Value} {d : DataW H} {p : List MemPlace} (hv : Value.okWide Try.prog W r b0 44 v) (h : DataW.Trod enc Try.prog W base spare held 44 v d p) : ∃ t : Tk, v = t.v ∧ t.s.size ≤ maxLen := by
  obtain ⟨cs, rfl, hsz⟩ := okWide_struct Try.underlying44 hv
  obtain ⟨fuel, hf⟩ := h
  obtain ⟨t, hcs, hm⟩ := trod_tk hf
  refine ⟨t, ?_, hm⟩
  have : cs.toList = [.int .i64 t.k, .int .i64 t.n, .string t.s] := by simpa [Value.cells] using hcs
  unfold Tk.v Tk.cs
  rw [← Array.toArray_toList (xs := cs), this]
end
end Go.Proofs.Ytemglcdglnjakaa
