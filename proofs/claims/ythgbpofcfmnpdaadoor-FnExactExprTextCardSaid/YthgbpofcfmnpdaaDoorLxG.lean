/- How many tokens Lex answers; lists kept behind marks; what the listed variables give Lex; over this seat's translation; conditions stand as hypotheses of each. -/
import Derived.Test.YthgbpofcfmnpdaaDoorLxF
import Derived.Test.YthgbpofcfmnpdaaDoorLiC
import Derived.Test.YthgbpofcfmnpdaaDoorLiF
import Derived.LaidMore
namespace Go.Proofs.YthgbpofcfmnpdaaDoor
open Go.ChangeShapes Go.WideShapes Go.ChangeAt Go.RowKit
set_option linter.unusedVariables false
set_option maxRecDepth 8000

theorem lexR_len (s : ByteArray) : ∀ (n k : Nat) (acc : List Tk), s.size - k ≤ n → acc.length ≤ 800 → (lexR s k acc).1.length ≤ 800 := by
  intro n
  induction n with
  | zero =>
    intro k acc hn h8
    rw [lexR_end (by omega)]
    exact h8
  | succ n ih =>
    intro k acc hn h8
    by_cases hlt : k < s.size
    · by_cases h59 : bAt s.data.toList k = 59
      · rw [lexR_semi hlt h59]; exact h8
      · cases hbl : blB (bAt s.data.toList k)
        · cases hok : (oneT badS s k).ok
          · rw [lexR_bad hlt h59 hbl (.inl hok)]; simp
          · by_cases h800 : acc.length = 800
            · rw [lexR_bad hlt h59 hbl (.inr h800)]; simp
            · rw [lexR_next hlt h59 hbl hok h800]
              have := oneE_bd s k hlt
              exact ih _ _ (by omega) (by rw [List.length_append]; simp; omega)
        · rw [lexR_blank hlt h59 hbl]
          exact ih _ _ (by omega) h8
    · rw [lexR_end hlt]; exact h8
theorem lex_len (s : ByteArray) : (lexR s 0 []).1.length ≤ 800 := lexR_len s s.size 0 [] (by omega) (by simp)
/-- A list stays while another, of later memory, is written. -/
theorem OwnT.apart {w w' : World} {B C : Nat} {v u : Value} {ts ms : List Tk} (h : OwnT w B v ts) (k : OwnT w C u ms) (hg : w.grownBy w' u.ownBlock) (hlt : ∀ g, v.ownBlock = some g → g < C) : OwnT w' B v ts :=
  h.keep fun g hv hl => hg.block g hl (fun e => by have := (k.lt e.symm).1; have := hlt g hv; omega)
theorem eqT_own (v u : Value) (ts : List Tk) (B C : Nat) (w : World) (hm : ts.length ≤ 800) (h : OwnT w B v ts) (k : OwnT w C u ts) : Calls Tryd.prog 25 #[v, u] w fun e w' => e = .returned (.bool true) ∧ Below w.heap.size w w' := by
  obtain ⟨a, c, rfl, r⟩ := h.rd
  obtain ⟨b, d, rfl, q⟩ := k.rd
  exact eqTokS_same a b ts.length c d ts w rfl (by omega) r q
theorem heldT_own (v : Value) (n B : Nat) (w : World) (hm : n ≤ 800) (h : OwnT w B v (marksT n)) : Calls Tryd.prog 27 #[v, .int .i64 1] w fun e w' => e = .returned (.int .i64 ((1 + 3 * n : Nat) : Int)) ∧ Below w.heap.size w w' := by
  obtain ⟨a, c, rfl, r⟩ := h.rd
  rw [marksT_len]
  exact heldTokS_rd a n c w hm r
theorem gES : Tryd.prog.globalNamed "strconv.ErrSyntax" = some 5 := by kernel_rfl
theorem gER : Tryd.prog.globalNamed "strconv.ErrRange" = some 6 := by kernel_rfl
theorem tES : (Tryd.prog.globals[5]?).map (·.type) = some 62 := by kernel_rfl
theorem tER : (Tryd.prog.globals[6]?).map (·.type) = some 62 := by kernel_rfl
theorem cellsES : Tryd.prog.cellsOf 177 = 1 := by kernel_rfl
theorem cellsSt : Tryd.prog.cellsOf 9 = 1 := by kernel_rfl
theorem star : "*" ++ "errors.errorString" = "*errors.errorString" := by decide
theorem rowES (u : TypeId) (h : Tryd.prog.typeName? 3 u = some "*errors.errorString") : u = 175 :=
  typeName_ptr_named (nm := "errors.errorString") (by rw [star]; kernel_rfl) (by kernel_rfl) (by decide) u (by rw [star]; exact h)
/-- The listed variables give what the program's reading leans on. -/
theorem env_of {W : World} (h : laidMetH Tryd.prog [("math/bits.deBruijn32tab", Rows.laid_math_bits_deBruijn32tab), ("math/bits.deBruijn64tab", Rows.laid_math_bits_deBruijn64tab), ("internal/strconv.uint64pow10", Rows.laid_internal_strconv_uint64pow10), ("strconv.ErrRange", Rows.laid_strconv_ErrRange), ("strconv.ErrSyntax", Rows.laid_strconv_ErrSyntax), ("loop.example/g00329/impl.opWords", Rows.laid_loop_example_g00329_impl_opWords), ("loop.example/g00329/impl.regWords", Rows.laid_loop_example_g00329_impl_regWords)] W) : Env W := by
  rw [MakeChecks.laidMetH_plain _ _ _ (by kernel_rfl)] at h
  have h3 := h.tail.tail.tail
  obtain ⟨a2, s2, hv2, -, -, -⟩ := laid_sentinel h3 gER tER Tryd.underlying62 rowES Tryd.underlying175 Tryd.underlying177 rfl rfl Tryd.underlying9 cellsES cellsSt
  obtain ⟨a1, s1, hv1, -, -, -⟩ := laid_sentinel h3.tail gES tES Tryd.underlying62 rowES Tryd.underlying175 Tryd.underlying177 rfl rfl Tryd.underlying9 cellsES cellsSt
  exact ⟨tabK_of h3.tail.tail, db_of h.tail, ⟨_, _, by have h0 := World.var?_cell gES hv1 0; simpa using h0⟩, ⟨_, _, by have h0 := World.var?_cell gER hv2 0; simpa using h0⟩⟩
end Go.Proofs.YthgbpofcfmnpdaaDoor
