/- The contract of the program's Decode at every list and place, over this seat's translation; conditions stand as hypotheses. -/
import Derived.Test.YtomoakfemdjpbaaDoorDecH
import Derived.Test.YtomoakfemdjpbaaDoorDecG
namespace Go.Proofs.YtomoakfemdjpbaaDoor
open Go.ChangeShapes Go.WideShapes Go.ChangeAt Go.RowKit
set_option linter.unusedVariables false
set_option linter.unusedSimpArgs false

theorem ok_op0 {i : Is} (h : i.op = 0) : i.ok = false := by
  cases e : i.ok
  · rfl
  · have := (is_ok e).1; omega
theorem decI_any (a : Option Addr) (len cap : Nat) (ns : List Int) (i : Int) (w : World) (ht : Tab w) (hl : ns.length = len) (hm : len ≤ 1099511627776) (hr : RdN w a ns) (hbd : Bds ns) :
    Calls Tryd.prog 11 #[.slice a len cap, .int .i64 i] w fun e w' => e = .returned (decV ns i) ∧ Below w.heap.size w w' := by
  by_cases hi : i < 0 ∨ (len : Int) ≤ i
  · exact decI_out a len cap ns i w hl hm hi
  obtain ⟨p, rfl⟩ := Int.eq_ofNat_of_zero_le (show 0 ≤ i by omega)
  have hp : p < len := by omega
  rcases hr with h0 | ⟨b, off, rfl, hb, hc⟩
  · rw [h0] at hl; simp at hl; omega
  have hn2 := (hbd p (by omega)).2
  have hI1 : inB (p : Int) 0 ((ns.length : Int) - 1) = true := inB_t _ _ _ (by omega)
  by_cases hin : 0 ≤ nAt ns p ∧ nAt ns p ≤ 65535
  · have hIn : decIn ns (p : Int) = true := by
      unfold decIn
      rw [hI1, Int.toNat_natCast, inB_t _ _ _ hin]
      rfl
    have hdI : dI (nAt ns p) = dOp (nAt ns p) := by unfold dI; rw [if_pos hin]
    have hO := decOk_in hIn
    rw [Int.toNat_natCast] at hO
    obtain ⟨op, sm, sr, dm, dr, x, hD, ho1, ho2, hs, hd⟩ := dOp_form (nAt ns p) hin.1 hin.2
    have hokD : okD (nAt ns p) = !(op == 0) := by unfold okD; rw [hdI, hD]
    have hXop : (decX ns (p : Int)).op = op := by unfold decX; rw [Int.toNat_natCast, hD]; rfl
    by_cases hz : op = 0
    · have hno : decOk ns (p : Int) = false := by rw [hO, ok_op0 (hXop.trans hz), Bool.and_false]
      exact decI_none b off len cap ns p _ w ht hl hm hb hc hp rfl hn2 op sm sr dm dr x (hdI.trans hD) (by rw [hokD, hz]; rfl) hno
    · have hok : okD (nAt ns p) = true := by rw [hokD]; simp [hz]
      have hneed : (dOp (nAt ns p)).need = oneX (Od.hasX ⟨sm, sr, 0⟩) + oneX (Od.hasX ⟨dm, dr, 0⟩) := by rw [hD]; rfl
      have hwords : Is.words ⟨op, ⟨sm, sr, 0⟩, ⟨dm, dr, 0⟩, x⟩ = 1 + ((oneX (Od.hasX ⟨sm, sr, 0⟩) + oneX (Od.hasX ⟨dm, dr, 0⟩) : Nat) : Int) := by
        unfold Is.words
        simp only
        have e1 : (inB op 1 6 && Od.hasX ⟨sm, sr, 0⟩) = Od.hasX ⟨sm, sr, 0⟩ := by
          by_cases h6 : op ≤ 6
          · rw [inB_t _ _ _ ⟨by omega, h6⟩, Bool.true_and]
          · rw [hs (by omega), Bool.and_false]
        have e2 : (inB op 1 15 && Od.hasX ⟨dm, dr, 0⟩) = Od.hasX ⟨dm, dr, 0⟩ := by
          by_cases h15 : op ≤ 15
          · rw [inB_t _ _ _ ⟨by omega, h15⟩, Bool.true_and]
          · rw [hd (by omega), Bool.and_false]
        rw [e1, e2]
        cases Od.hasX ⟨sm, sr, 0⟩ <;> cases Od.hasX ⟨dm, dr, 0⟩ <;> rfl
      rw [hneed] at hO
      by_cases hfit : p + 1 + (oneX (Od.hasX ⟨sm, sr, 0⟩) + oneX (Od.hasX ⟨dm, dr, 0⟩)) ≤ len
      · have hX : decX ns (p : Int) = ⟨op, ⟨sm, sr, if Od.hasX ⟨sm, sr, 0⟩ = true then nAt ns (p + 1) else 0⟩, ⟨dm, dr, if Od.hasX ⟨dm, dr, 0⟩ = true then nAt ns (p + 1 + oneX (Od.hasX ⟨sm, sr, 0⟩)) else 0⟩, x⟩ := by
          unfold decX
          rw [Int.toNat_natCast, hD]
          rfl
        rw [hl, decide_eq_true hfit, Bool.true_and, hX] at hO
        exact decI_in b off len cap ns p _ w ht hl hm hb hc hp rfl hn2 op sm sr dm dr x _ _ _ _ (hdI.trans hD) hok rfl rfl rfl rfl hwords hfit hX (by rw [Int.toNat_natCast]; exact hneed) hO
      · rw [hl, decide_eq_false hfit, Bool.false_and] at hO
        exact decI_short b off len cap ns p _ w ht hl hm hb hc hp rfl hn2 op sm sr dm dr x (hdI.trans hD) hok (by rw [hwords]; omega) hO
  · have hno : decOk ns (p : Int) = false := decOk_out (by
      unfold decIn
      rw [Int.toNat_natCast, inB_f (nAt ns p) 0 65535 (by omega), Bool.and_false])
    have hdI : dI (nAt ns p) = ⟨0, ⟨0, 0, 0⟩, ⟨0, 0, 0⟩, 0⟩ := by unfold dI; rw [if_neg hin]; rfl
    exact decI_none b off len cap ns p _ w ht hl hm hb hc hp rfl hn2 0 0 0 0 0 0 hdI (by unfold okD; rw [hdI]; rfl) hno

theorem decS_own (v : Value) (ns : List Int) (B : Nat) (i : Int) (w : World) (hm : ns.length ≤ 1048576) (h : OwnN w B v ns) :
    Calls Tryd.prog 12 #[v, .int .i64 i] w fun e w' => e = .returned (decV ns i) ∧ Below w.heap.size w w' := by
  obtain ⟨a, cap, rfl, _, _, hr, _⟩ := h.rd
  exact decS_any a ns.length cap ns i w rfl (by omega) hr
theorem decI_own (v : Value) (ns : List Int) (B : Nat) (i : Int) (w : World) (ht : Tab w) (hm : ns.length ≤ 1048576) (hbd : Bds ns) (h : OwnN w B v ns) :
    Calls Tryd.prog 11 #[v, .int .i64 i] w fun e w' => e = .returned (decV ns i) ∧ Below w.heap.size w w' := by
  obtain ⟨a, cap, rfl, _, _, hr, _⟩ := h.rd
  exact decI_any a ns.length cap ns i w ht rfl (by omega) hr hbd
end Go.Proofs.YtomoakfemdjpbaaDoor
