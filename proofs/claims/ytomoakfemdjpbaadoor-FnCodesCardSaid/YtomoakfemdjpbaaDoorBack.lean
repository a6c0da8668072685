/- Instructions come back of their words, and words of their instructions; no condition but what stands as hypotheses. -/
import Derived.Test.YtomoakfemdjpbaaDoorDecI
import Derived.Test.YtomoakfemdjpbaaDoorDrwE
namespace Go.Proofs.YtomoakfemdjpbaaDoor
open Go.ChangeShapes Go.WideShapes Go.ChangeAt Go.RowKit
set_option linter.unusedVariables false
set_option linter.unusedSimpArgs false

def Is.bare (i : Is) : Is := ⟨i.op, ⟨i.s.m, i.s.r, 0⟩, ⟨i.d.m, i.d.r, 0⟩, i.n⟩
theorem od_mr {o : Od} (h : o.zero = true) : (⟨o.m, o.r, 0⟩ : Od) = zO := by
  obtain ⟨h1, h2, h3⟩ := od_zero h
  rw [h1, h2]
  rfl
theorem code_hit (i : Is) (h : i.ok = true) : Hit i.code i.op.toNat ∧ getK i.op.toNat (i.code - baseAt i.op.toNat) = i.bare := by
  obtain ⟨h1, h2, h3, h4, h5, h6, h7, h8, h9, h10⟩ := is_ok h
  have hc := code_fld i h
  obtain ⟨k, hk⟩ := Int.eq_ofNat_of_zero_le (show 0 ≤ i.op by omega)
  rw [hc.1]
  have e : baseAt i.op.toNat + i.fld - baseAt i.op.toNat = i.fld := by omega
  rw [e]
  unfold Hit
  rw [e]
  have hkk : i.op.toNat = k := by omega
  have hf := hc.2
  clear hc e
  rw [hkk]
  have hb0 : baseAt k ≤ baseAt k + i.fld := by omega
  by_cases c1 : i.op ≤ 6
  · have a1 := ok_inO (h2 c1)
    have a2 := ok_inO (h3 (by omega))
    have hn := h7 (by omega)
    unfold InO at a1 a2
    rw [cnt_0 k (by omega), getK_two k (by omega)]
    have hfl : i.fld = (i.s.m * 8 + i.s.r) * 64 + (i.d.m * 8 + i.d.r) := by unfold Is.fld; rw [if_pos c1]; rfl
    refine ⟨⟨hb0, by omega⟩, ?_⟩
    rw [hfl]
    apply is_ext <;> simp only [Is.bare, opdOf] <;> omega
  by_cases c2 : i.op ≤ 14
  · have a2 := ok_inO (h3 (by omega))
    have hn := h7 (by omega)
    have hz := od_zero (h4 (by omega))
    unfold InO at a2
    rw [cnt_1 k (by omega), getK_one k (by omega)]
    have hfl : i.fld = i.d.m * 8 + i.d.r := by unfold Is.fld; rw [if_neg c1, if_pos c2]; rfl
    refine ⟨⟨hb0, by omega⟩, ?_⟩
    rw [hfl]
    apply is_ext <;> simp only [Is.bare, opdOf, zO] <;> omega
  by_cases c3 : i.op = 15
  · have a2 := ok_inO (h3 (by omega))
    have hn := h8 (by omega)
    have hz := od_zero (h4 (by omega))
    unfold InO at a2
    rw [cnt_2 k (by omega), getK_reg k (by omega)]
    have hfl : i.fld = i.n * 64 + (i.d.m * 8 + i.d.r) := by unfold Is.fld; rw [if_neg c1, if_neg c2, if_pos c3]; rfl
    refine ⟨⟨hb0, by omega⟩, ?_⟩
    rw [hfl]
    apply is_ext <;> simp only [Is.bare, opdOf, zO] <;> omega
  have hz := od_zero (h4 (by omega))
  have hy := od_zero (h5 (by omega))
  by_cases c4 : 17 ≤ i.op ∧ i.op ≤ 21
  · have hn := h9 c4
    rw [cnt_4 k (by omega), getK_br k (by omega)]
    have hfl : i.fld = i.n % 256 := by unfold Is.fld; rw [if_neg c1, if_neg c2, if_neg c3, if_pos c4]
    refine ⟨⟨hb0, by omega⟩, ?_⟩
    rw [hfl]
    have hv : (if 127 < i.n % 256 then i.n % 256 - 256 else i.n % 256) = i.n := by split <;> omega
    rw [hv]
    apply is_ext <;> simp only [Is.bare, zO] <;> omega
  · have hfl : i.fld = i.n := by unfold Is.fld; rw [if_neg c1, if_neg c2, if_neg c3, if_neg c4]
    rw [getK_num k (by omega)]
    have hcn : i.fld < cntAt k := by
      rw [hfl]
      by_cases d1 : i.op = 16
      · rw [cnt_3 k (by omega)]; have := h8 (by omega); omega
      by_cases d2 : i.op = 22
      · rw [cnt_5 k (by omega)]; have := h7 (by omega); omega
      · rw [cnt_6 k (by omega)]; omega
    refine ⟨⟨hb0, hcn⟩, ?_⟩
    rw [hfl]
    apply is_ext <;> simp only [Is.bare, zO] <;> omega
theorem dOp_code (i : Is) (h : i.ok = true) : dOp i.code = i.bare := by
  have h1 := (is_ok h).1
  have := code_hit i h
  rw [dOp_hit (by omega) (by omega) this.1, this.2]
theorem xOf_len (b : Bool) (x : Int) : (xOf b x).length = oneX b := by cases b <;> rfl
theorem bare_need (i : Is) : i.bare.need = oneX i.s.hasX + oneX i.d.hasX := rfl
theorem x_zero {i : Is} (h : i.ok = true) : (i.s.hasX = false → i.s.x = 0) ∧ (i.d.hasX = false → i.d.x = 0) := by
  obtain ⟨h1, h2, h3, h4, h5, _⟩ := is_ok h
  constructor
  · intro hx
    by_cases c : i.op ≤ 6
    · have := (od_ok (h2 c)).2.2.2
      rw [hx] at this
      simpa using this
    · exact (od_zero (h4 (by omega))).2.2
  · intro hx
    by_cases c : i.op ≤ 15
    · have := (od_ok (h3 c)).2.2.2
      rw [hx] at this
      simpa using this
    · exact (od_zero (h5 (by omega))).2.2
theorem enc_form {i : Is} (h : i.ok = true) : i.enc = i.code :: (xOf i.s.hasX i.s.x ++ xOf i.d.hasX i.d.x) := by
  unfold Is.enc
  rw [if_pos h, xs_both i h]
theorem enc_length {i : Is} (h : i.ok = true) : i.enc.length = 1 + (oneX i.s.hasX + oneX i.d.hasX) := by
  rw [enc_form h]
  simp [xOf_len]
  omega
/-- An instruction comes back of its words, whatever stands behind them. -/
theorem dec_enc (i : Is) (h : i.ok = true) (t : List Int) : decOk (i.enc ++ t) 0 = true ∧ decX (i.enc ++ t) 0 = i ∧ 1 + (dOp (nAt (i.enc ++ t) (0 : Int).toNat)).need = i.enc.length := by
  have hl := enc_length h
  have hz := x_zero h
  have hf : nAt (i.enc ++ t) 0 = i.code := by rw [enc_form h]; rfl
  have hwd := (enc_wd i) i.code (by rw [enc_form h]; simp)
  have hD : dOp (nAt (i.enc ++ t) (0 : Int).toNat) = i.bare := by
    show dOp (nAt (i.enc ++ t) 0) = i.bare
    rw [hf, dOp_code i h]
  have hX : decX (i.enc ++ t) 0 = i := by
    unfold decX
    rw [hD, enc_form h]
    unfold Is.fill Is.bare
    have e1 : (Od.hasX ⟨i.s.m, i.s.r, 0⟩) = i.s.hasX := rfl
    have e2 : (Od.hasX ⟨i.d.m, i.d.r, 0⟩) = i.d.hasX := rfl
    simp only [e1, e2]
    cases hs : i.s.hasX <;> cases hd : i.d.hasX
    · apply is_ext <;> first | rfl | exact (hz.1 hs).symm | exact (hz.2 hd).symm
    · apply is_ext <;> first | rfl | exact (hz.1 hs).symm
    · apply is_ext <;> first | rfl | exact (hz.2 hd).symm
    · apply is_ext <;> rfl
  refine ⟨?_, hX, by rw [hD, bare_need, hl]⟩
  have hIn : decIn (i.enc ++ t) 0 = true := by
    unfold decIn
    rw [inB_t 0 _ _ (by simp; omega)]
    show (true && inB (nAt (i.enc ++ t) 0) 0 65535) = true
    rw [hf, inB_t _ _ _ hwd]
    rfl
  rw [decOk_in hIn, hX, h, hD, bare_need, Bool.and_true, decide_eq_true (by simp; omega)]
/-- With its last word cut off it does not. -/
theorem dec_cut (i : Is) (h : i.ok = true) : decOk i.enc.dropLast 0 = false := by
  have hl := enc_length h
  by_cases h1 : i.enc.length = 1
  · apply decOk_out
    unfold decIn
    rw [inB_f 0 _ _ (by simp; omega)]
    rfl
  · have hf : nAt i.enc.dropLast 0 = i.code := by
      have e : i.enc.dropLast = i.code :: (xOf i.s.hasX i.s.x ++ xOf i.d.hasX i.d.x).dropLast := by
        rw [enc_form h, List.dropLast_cons_of_ne_nil]
        intro e
        rw [enc_form h, e] at h1
        simp at h1
      rw [e]
      rfl
    have hD : dOp (nAt i.enc.dropLast (0 : Int).toNat) = i.bare := by
      show dOp (nAt i.enc.dropLast 0) = i.bare
      rw [hf, dOp_code i h]
    cases hI : decIn i.enc.dropLast 0
    · exact decOk_out hI
    · rw [decOk_in hI, hD, bare_need, decide_eq_false (by simp; omega), Bool.false_and]
theorem words_ok {i : Is} (h : i.ok = true) : i.words = 1 + ((oneX i.s.hasX + oneX i.d.hasX : Nat) : Int) := by
  obtain ⟨h1, h2, h3, h4, h5, _⟩ := is_ok h
  unfold Is.words
  have e1 : (inB i.op 1 6 && i.s.hasX) = i.s.hasX := by
    by_cases h6 : i.op ≤ 6
    · rw [inB_t _ _ _ ⟨by omega, h6⟩, Bool.true_and]
    · rw [zero_noX (h4 (by omega)), Bool.and_false]
  have e2 : (inB i.op 1 15 && i.d.hasX) = i.d.hasX := by
    by_cases h15 : i.op ≤ 15
    · rw [inB_t _ _ _ ⟨by omega, h15⟩, Bool.true_and]
    · rw [zero_noX (h5 (by omega)), Bool.and_false]
  rw [e1, e2]
  cases i.s.hasX <;> cases i.d.hasX <;> rfl
theorem drop_nAt {ns : List Int} {p : Nat} (h : p < ns.length) : ns.drop p = nAt ns p :: ns.drop (p + 1) := by
  rw [List.drop_eq_getElem_cons h]
  unfold nAt
  rw [List.getD_eq_getElem?_getD, List.getElem?_eq_getElem h]
  rfl
theorem code_same {a b : Is} (h1 : a.op = b.op) (h2 : a.s.m = b.s.m) (h3 : a.s.r = b.s.r) (h4 : a.d.m = b.d.m) (h5 : a.d.r = b.d.r) (h6 : a.n = b.n) : a.fld = b.fld := by
  unfold Is.fld Od.six
  rw [h1, h2, h3, h4, h5, h6]
theorem getK_fld {k : Nat} (h1 : 1 ≤ k) (h2 : k ≤ 23) (f : Int) (h0 : 0 ≤ f) (hf : f < cntAt k) : (getK k f).fld = f := by
  by_cases c1 : k ≤ 6
  · rw [cnt_0 k (by omega)] at hf
    rw [getK_two k c1]
    unfold Is.fld
    rw [if_pos (by simp only; omega)]
    simp only [Od.six, opdOf]
    omega
  by_cases c2 : k ≤ 14
  · rw [cnt_1 k (by omega)] at hf
    rw [getK_one k (by omega)]
    unfold Is.fld
    rw [if_neg (by simp only; omega), if_pos (by simp only; omega)]
    simp only [Od.six, opdOf]
    omega
  by_cases c3 : k = 15
  · rw [cnt_2 k (by omega)] at hf
    rw [getK_reg k c3]
    unfold Is.fld
    rw [if_neg (by simp only; omega), if_neg (by simp only; omega), if_pos (by simp only; omega)]
    simp only [Od.six, opdOf]
    omega
  by_cases c4 : 17 ≤ k ∧ k ≤ 21
  · rw [cnt_4 k (by omega)] at hf
    rw [getK_br k c4]
    have e : Is.fld ⟨(k : Int), zO, zO, if 127 < f then f - 256 else f⟩ = (if 127 < f then f - 256 else f) % 256 := by
      unfold Is.fld
      rw [if_neg (show ¬ (k : Int) ≤ 6 by omega), if_neg (show ¬ (k : Int) ≤ 14 by omega), if_neg (show ¬ (k : Int) = 15 by omega), if_pos (show 17 ≤ (k : Int) ∧ (k : Int) ≤ 21 by omega)]
    rw [e]
    split <;> omega
  · rw [getK_num k (by omega)]
    unfold Is.fld
    rw [if_neg (show ¬ (k : Int) ≤ 6 by omega), if_neg (show ¬ (k : Int) ≤ 14 by omega), if_neg (show ¬ (k : Int) = 15 by omega), if_neg (show ¬ (17 ≤ (k : Int) ∧ (k : Int) ≤ 21) by omega)]
/-- What is read has just these words. -/
theorem enc_dec (ns : List Int) (p : Nat) (h : decOk ns (p : Int) = true) : (decX ns (p : Int)).ok = true ∧ (decX ns (p : Int)).words = 1 + ((dOp (nAt ns (p : Int).toNat)).need : Int) ∧ p + 1 + (dOp (nAt ns (p : Int).toNat)).need ≤ ns.length ∧ (decX ns (p : Int)).enc = (ns.drop p).take (1 + (dOp (nAt ns (p : Int).toNat)).need) := by
  have hIn : decIn ns (p : Int) = true := by
    cases e : decIn ns (p : Int)
    · rw [decOk_out e] at h; cases h
    · rfl
  rw [decOk_in hIn, Int.toNat_natCast] at h
  simp only [Bool.and_eq_true, decide_eq_true_eq] at h
  obtain ⟨hfit, hok⟩ := h
  rw [Int.toNat_natCast]
  have hX : decX ns (p : Int) = (dOp (nAt ns p)).fill ns (p + 1) := by unfold decX; rw [Int.toNat_natCast]
  have hop := (is_ok hok).1
  have hop2 : (dOp (nAt ns p)).op = (decX ns (p : Int)).op := by rw [hX]; rfl
  have hb : 0 ≤ nAt ns p ∧ nAt ns p ≤ 65535 := by
    unfold decIn inB at hIn
    rw [Int.toNat_natCast] at hIn
    simp at hIn
    omega
  obtain ⟨k, hk1, hk2, hh⟩ : ∃ k, 1 ≤ k ∧ k ≤ 23 ∧ Hit (nAt ns p) k := by
    by_cases hm : ∀ k, 1 ≤ k → k ≤ 23 → ¬ Hit (nAt ns p) k
    · rw [dOp_miss hb.1 hb.2 hm] at hop2
      simp only at hop2
      omega
    · simp only [Classical.not_forall, Classical.not_not] at hm
      obtain ⟨k, a, b, c⟩ := hm
      exact ⟨k, a, b, c⟩
  have hD := dOp_hit hk1 hk2 hh
  have hs : (decX ns (p : Int)).s.hasX = (dOp (nAt ns p)).s.hasX := by rw [hX]; rfl
  have hd : (decX ns (p : Int)).d.hasX = (dOp (nAt ns p)).d.hasX := by rw [hX]; rfl
  have hneed : (dOp (nAt ns p)).need = oneX (decX ns (p : Int)).s.hasX + oneX (decX ns (p : Int)).d.hasX := by rw [hs, hd]; rfl
  refine ⟨hok, by rw [words_ok hok, hneed], hfit, ?_⟩
  have hcode : (decX ns (p : Int)).code = nAt ns p := by
    rw [(code_fld _ hok).1]
    have e1 : (decX ns (p : Int)).fld = (getK k (nAt ns p - baseAt k)).fld := by
      rw [hX, ← hD]
      exact code_same rfl rfl rfl rfl rfl rfl
    have e2 : (decX ns (p : Int)).op.toNat = k := by rw [← hop2, hD, getK_op]; simp
    unfold Hit at hh
    rw [e1, e2, getK_fld hk1 hk2 _ (by omega) hh.2]
    omega
  have hsx : (decX ns (p : Int)).s.hasX = true → (decX ns (p : Int)).s.x = nAt ns (p + 1) := fun e => by
    rw [hs] at e
    rw [hX]
    unfold Is.fill
    simp only [e, if_true]
  have hdx : (decX ns (p : Int)).d.hasX = true → (decX ns (p : Int)).d.x = nAt ns (p + 1 + oneX (decX ns (p : Int)).s.hasX) := fun e => by
    rw [hd] at e
    rw [hs, hX]
    unfold Is.fill
    simp only [e, if_true]
  rw [enc_form hok, hcode, hneed]
  rw [hneed] at hfit
  clear hneed hs hd hX hop hop2 hD hh hcode hok hIn
  revert hsx hdx hfit
  generalize (decX ns (p : Int)).s.hasX = a
  generalize (decX ns (p : Int)).d.hasX = b
  generalize (decX ns (p : Int)).s.x = x
  generalize (decX ns (p : Int)).d.x = y
  intro hfit hsx hdx
  cases a <;> cases b <;> simp only [oneX, if_true, Bool.false_eq_true, if_false] at hfit ⊢
  · rw [drop_nAt (show p < ns.length by omega)]; rfl
  · rw [drop_nAt (show p < ns.length by omega), drop_nAt (show p + 1 < ns.length by omega), hdx rfl]; rfl
  · rw [drop_nAt (show p < ns.length by omega), drop_nAt (show p + 1 < ns.length by omega), hsx rfl]; rfl
  · rw [drop_nAt (show p < ns.length by omega), drop_nAt (show p + 1 < ns.length by omega), drop_nAt (show p + 1 + 1 < ns.length by omega), hsx rfl, hdx rfl]; rfl
end Go.Proofs.YtomoakfemdjpbaaDoor
