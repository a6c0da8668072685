/- Contracts over this seat's translation, laid together; conditions stand as hypotheses of each. -/
import Derived.Test.YtjnblcgekpgkoaaGreatDoorTqF
import Derived.OpenVars
namespace Go.Proofs.YtjnblcgekpgkoaaGreatDoor
open Go.ChangeShapes Go.WideShapes Go.ChangeAt Go.RowKit
set_option maxHeartbeats 16000000
set_option linter.unusedVariables false
set_option maxRecDepth 8000
set_option linter.unusedSimpArgs false
section
section
variable {H : Type} {enc : TypeId × Value → H} {P : Program} {w : World} {spare : Nat → Bool}
theorem varsL_3 {n0 n1 n2 : String} {gs : List (DataW H)} {ps : List MemPlace} (h : DataW.TrodVars enc P w spare [n0, n1, n2] gs ps) : ∃ d0 d1 d2, gs = [d0, d1, d2] := by
 cases gs with
 | nil => simp [DataW.TrodVars] at h
 | cons d ds =>
  obtain ⟨g0, t0, cs0, f0, p0, q0, h1, h2, h3, h4, hs, e⟩ := h
  obtain ⟨g1, t1, cs1, f1, d1, p1, g2, t2, cs2, f2, d2, p2, rfl, _⟩ := trodVars_two hs
  exact ⟨d, d1, d2, rfl⟩
theorem varsL_4 {n0 n1 n2 n3 : String} {gs : List (DataW H)} {ps : List MemPlace} (h : DataW.TrodVars enc P w spare [n0, n1, n2, n3] gs ps) : ∃ d0 d1 d2 d3, gs = [d0, d1, d2, d3] := by
 cases gs with
 | nil => simp [DataW.TrodVars] at h
 | cons d ds =>
  obtain ⟨g0, t0, cs0, f0, p0, q0, h1, h2, h3, h4, hs, e⟩ := h
  obtain ⟨d1, d2, d3, rfl⟩ := varsL_3 hs
  exact ⟨d, d1, d2, d3, rfl⟩
theorem varsL_5 {n0 n1 n2 n3 n4 : String} {gs : List (DataW H)} {ps : List MemPlace} (h : DataW.TrodVars enc P w spare [n0, n1, n2, n3, n4] gs ps) : ∃ d0 d1 d2 d3 d4, gs = [d0, d1, d2, d3, d4] := by
 cases gs with
 | nil => simp [DataW.TrodVars] at h
 | cons d ds =>
  obtain ⟨g0, t0, cs0, f0, p0, q0, h1, h2, h3, h4, hs, e⟩ := h
  obtain ⟨d1, d2, d3, d4, rfl⟩ := varsL_4 hs
  exact ⟨d, d1, d2, d3, d4, rfl⟩
end
theorem gFm : Tryz.prog.globalNamed "loop.example/g00329/impl.argForms" = some 2 := by kernel_rfl
theorem tFm : (Tryz.prog.globals[2]?).map (·.type) = some 155 := by kernel_rfl
theorem fmD_eq : (Rows.laid_loop_example_g00329_impl_argForms : DataW Unit) = strData fmL := by kernel_rfl
end
theorem gSnL : Tryz.prog.globalNamed "loop.example/g00329/impl.signs" = some 4 := by kernel_rfl
theorem tSnL : (Tryz.prog.globals[4]?).map (·.type) = some 190 := by kernel_rfl
theorem snL_eq : (Rows.laid_loop_example_g00329_impl_signs : DataW Unit) = strData sgnL := by kernel_rfl
theorem gDt : Tryz.prog.globalNamed "loop.example/g00329/impl.dotWords" = some 1 := by kernel_rfl
theorem tDt : (Tryz.prog.globals[1]?).map (·.type) = some 138 := by kernel_rfl
theorem dtD_eq : (Rows.laid_loop_example_g00329_impl_dotWords : DataW Unit) = strData dotL := by kernel_rfl
theorem tabl_of {W : World} (h : laidMetH Tryz.prog [("math/bits.deBruijn32tab", Rows.laid_math_bits_deBruijn32tab), ("math/bits.deBruijn64tab", Rows.laid_math_bits_deBruijn64tab), ("internal/strconv.uint64pow10", Rows.laid_internal_strconv_uint64pow10), ("loop.example/g00329/impl.opWords", Rows.laid_loop_example_g00329_impl_opWords), ("loop.example/g00329/impl.regWords", Rows.laid_loop_example_g00329_impl_regWords), ("loop.example/g00329/impl.signs", Rows.laid_loop_example_g00329_impl_signs), ("loop.example/g00329/impl.argForms", Rows.laid_loop_example_g00329_impl_argForms), ("loop.example/g00329/impl.dotWords", Rows.laid_loop_example_g00329_impl_dotWords)] W) : TabL W := by
 rw [MakeChecks.laidMetH_plain _ _ _ (by kernel_rfl)] at h
 have hd := db_of h.tail
 have h := h.tail.tail.tail
 rw [opD_eq, rgD_eq, snL_eq, fmD_eq, dtD_eq] at h
 exact ⟨⟨⟨strs_of_head gOp tOp Tryz.underlying137 Tryz.underlying9 (by kernel_rfl) (by kernel_rfl) h, strs_of_head gRg tRg Tryz.underlying178 Tryz.underlying9 (by kernel_rfl) (by kernel_rfl) h.tail⟩, strs_of_head gSnL tSnL Tryz.underlying190 Tryz.underlying9 (by kernel_rfl) (by kernel_rfl) h.tail.tail, hd⟩, strs_of_head gFm tFm Tryz.underlying155 Tryz.underlying9 (by kernel_rfl) (by kernel_rfl) h.tail.tail.tail, strs_of_head gDt tDt Tryz.underlying138 Tryz.underlying9 (by kernel_rfl) (by kernel_rfl) h.tail.tail.tail.tail⟩
end Go.Proofs.YtjnblcgekpgkoaaGreatDoor
