/- What the listed tables give the walks over terms; over this seat's translation; conditions stand as hypotheses of each. -/
import Derived.Test.YthgbpofcfmnpdaaDoorTkH
import Derived.Test.YthgbpofcfmnpdaaDoorLiF
import Derived.Test.YthgbpofcfmnpdaaDoorLxG
import Derived.Test.YthgbpofcfmnpdaaDoorExZ
namespace Go.Proofs.YthgbpofcfmnpdaaDoor
open Go.ChangeShapes Go.WideShapes Go.ChangeAt Go.RowKit
set_option linter.unusedVariables false
set_option maxRecDepth 8000

section
variable {H : Type} {enc : TypeId × Value → H} {P : Program} {w : World} {spare : Nat → Bool}
theorem vars_three {n0 n1 n2 : String} {gs : List (DataW H)} {ps : List MemPlace} (h : DataW.TrodVars enc P w spare [n0, n1, n2] gs ps) : ∃ d0 d1 d2, gs = [d0, d1, d2] := by
  cases gs with
  | nil => simp [DataW.TrodVars] at h
  | cons d ds =>
    obtain ⟨g0, t0, cs0, f0, p0, q0, h1, h2, h3, h4, hs, e⟩ := h
    obtain ⟨g1, t1, cs1, f1, d1, p1, g2, t2, cs2, f2, d2, p2, rfl, _⟩ := trodVars_two hs
    exact ⟨d, d1, d2, rfl⟩
end
theorem gSg : Tryd.prog.globalNamed "loop.example/g00329/impl.signs" = some 2 := by kernel_rfl
theorem tSg : (Tryd.prog.globals[2]?).map (·.type) = some 134 := by kernel_rfl
theorem sgD_eq : (Rows.laid_loop_example_g00329_impl_signs : DataW Unit) = strData sgnL := by kernel_rfl
theorem tab3_of {W : World} (h : laidMet Tryd.prog [("loop.example/g00329/impl.opWords", Rows.laid_loop_example_g00329_impl_opWords), ("loop.example/g00329/impl.regWords", Rows.laid_loop_example_g00329_impl_regWords), ("loop.example/g00329/impl.signs", Rows.laid_loop_example_g00329_impl_signs)] W) : TabK W ∧ TabG W := by
  rw [opD_eq, rgD_eq, sgD_eq] at h
  exact ⟨⟨strs_of_head gOp tOp Tryd.underlying114 Tryd.underlying9 (by kernel_rfl) (by kernel_rfl) h, strs_of_head gRg tRg Tryd.underlying115 Tryd.underlying9 (by kernel_rfl) (by kernel_rfl) h.tail⟩, strs_of_head gSg tSg Tryd.underlying134 Tryd.underlying9 (by kernel_rfl) (by kernel_rfl) h.tail.tail⟩
theorem tabx_of {W : World} (h : laidMetH Tryd.prog [("math/bits.deBruijn32tab", Rows.laid_math_bits_deBruijn32tab), ("math/bits.deBruijn64tab", Rows.laid_math_bits_deBruijn64tab), ("internal/strconv.uint64pow10", Rows.laid_internal_strconv_uint64pow10), ("loop.example/g00329/impl.opWords", Rows.laid_loop_example_g00329_impl_opWords), ("loop.example/g00329/impl.regWords", Rows.laid_loop_example_g00329_impl_regWords), ("loop.example/g00329/impl.signs", Rows.laid_loop_example_g00329_impl_signs)] W) : TabX W := by
  rw [MakeChecks.laidMetH_plain _ _ _ (by kernel_rfl)] at h
  obtain ⟨h1, h2⟩ := tab3_of h.tail.tail.tail
  exact ⟨h1, h2, db_of h.tail⟩
/-- What reading a term leans on. -/
structure EnvX (w : World) : Prop where
  env : Env w
  x : TabX w
theorem EnvX.next {w w' : World} (h : EnvX w) (hb : Below w.heap.size w w') : EnvX w' := ⟨h.env.later hb, h.x.next hb⟩
theorem envx_of {W : World} (h : laidMetH Tryd.prog [("math/bits.deBruijn32tab", Rows.laid_math_bits_deBruijn32tab), ("math/bits.deBruijn64tab", Rows.laid_math_bits_deBruijn64tab), ("internal/strconv.uint64pow10", Rows.laid_internal_strconv_uint64pow10), ("strconv.ErrRange", Rows.laid_strconv_ErrRange), ("strconv.ErrSyntax", Rows.laid_strconv_ErrSyntax), ("loop.example/g00329/impl.opWords", Rows.laid_loop_example_g00329_impl_opWords), ("loop.example/g00329/impl.regWords", Rows.laid_loop_example_g00329_impl_regWords), ("loop.example/g00329/impl.signs", Rows.laid_loop_example_g00329_impl_signs)] W) : EnvX W := by
  rw [MakeChecks.laidMetH_plain _ _ _ (by kernel_rfl)] at h
  have h3 := h.tail.tail.tail
  obtain ⟨a2, s2, hv2, -, -, -⟩ := laid_sentinel h3 gER tER Tryd.underlying62 rowES Tryd.underlying175 Tryd.underlying177 rfl rfl Tryd.underlying9 cellsES cellsSt
  obtain ⟨a1, s1, hv1, -, -, -⟩ := laid_sentinel h3.tail gES tES Tryd.underlying62 rowES Tryd.underlying175 Tryd.underlying177 rfl rfl Tryd.underlying9 cellsES cellsSt
  obtain ⟨k1, k2⟩ := tab3_of h3.tail.tail
  exact ⟨⟨k1, db_of h.tail, ⟨_, _, by have h0 := World.var?_cell gES hv1 0; simpa using h0⟩, ⟨_, _, by have h0 := World.var?_cell gER hv2 0; simpa using h0⟩⟩, ⟨k1, k2, db_of h.tail⟩⟩
end Go.Proofs.YthgbpofcfmnpdaaDoor
