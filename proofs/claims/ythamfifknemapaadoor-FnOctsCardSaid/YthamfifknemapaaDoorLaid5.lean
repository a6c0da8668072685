/- What the listed sentinels give the walks, and that the door's own heap meets the lists, over this seat's translation; no condition. -/
import Derived.Test.YthamfifknemapaaDoorLaid
import Derived.Test.YthamfifknemapaaDoorPoC
namespace Go.Proofs.YthamfifknemapaaDoor
open Go.ChangeShapes Go.WideShapes Go.ChangeAt Go.RowKit
set_option linter.unusedVariables false

theorem gES : Tryd.prog.globalNamed "strconv.ErrSyntax" = some 1 := by kernel_rfl
theorem gER : Tryd.prog.globalNamed "strconv.ErrRange" = some 2 := by kernel_rfl
theorem tES : (Tryd.prog.globals[1]?).map (·.type) = some 38 := by kernel_rfl
theorem tER : (Tryd.prog.globals[2]?).map (·.type) = some 38 := by kernel_rfl
theorem cells75 : Tryd.prog.cellsOf 75 = 1 := by kernel_rfl
theorem cells9 : Tryd.prog.cellsOf 9 = 1 := by kernel_rfl
theorem star : "*" ++ "errors.errorString" = "*errors.errorString" := by decide
theorem row73 (u : TypeId) (h : Tryd.prog.typeName? 3 u = some "*errors.errorString") : u = 73 :=
  typeName_ptr_named (nm := "errors.errorString") (by rw [star]; kernel_rfl) (by kernel_rfl) (by decide) u (by rw [star]; exact h)

theorem of_sent {W : World} {a b c : String × DataW Unit}
    (h : laidMet Tryd.prog [a, b, c, ("strconv.ErrRange", Rows.laid_strconv_ErrRange), ("strconv.ErrSyntax", Rows.laid_strconv_ErrSyntax)] W) :
    ∃ te1 pe1 te2 pe2, W.cell? ⟨1, 0, none⟩ = some (.iface te1 pe1) ∧ W.cell? ⟨2, 0, none⟩ = some (.iface te2 pe2) := by
  have h3 := h.tail.tail.tail
  obtain ⟨a2, s2, hv2, -, -, -⟩ := laid_sentinel h3 gER tER Tryd.underlying38 row73 Tryd.underlying73 Tryd.underlying75 rfl rfl Tryd.underlying9 cells75 cells9
  obtain ⟨a1, s1, hv1, -, -, -⟩ := laid_sentinel h3.tail gES tES Tryd.underlying38 row73 Tryd.underlying73 Tryd.underlying75 rfl rfl Tryd.underlying9 cells75 cells9
  exact ⟨_, _, _, _, by have h0 := World.var?_cell gES hv1 0; simpa using h0, by have h0 := World.var?_cell gER hv2 0; simpa using h0⟩

theorem door_met5 (os : Os) (args : Array Value) : laidMetH Tryd.prog Rows.fnExactParseOctRow.laid ((World.doorLaid Tryd.prog 400 os).forCall (fun _ _ => 0) ⟨#[], args, []⟩).memory :=
  laidMetH_of_parts3 (fuel := 8) (laidMet_of_run' 8 (by kernel_rfl) (by kernel_rfl)) (by kernel_rfl) (by kernel_rfl)
end Go.Proofs.YthamfifknemapaaDoor
