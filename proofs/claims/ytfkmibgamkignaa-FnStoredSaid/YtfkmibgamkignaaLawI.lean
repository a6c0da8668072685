/- What is stored in a place is what is loaded from it: of lists; over this seat's translation; conditions stand as hypotheses of each. -/
import Derived.Test.YtfkmibgamkignaaLawH
namespace Go.Proofs.Ytfkmibgamkignaa
open Go.ChangeShapes Go.WideShapes Go.ChangeAt Go.RowKit
set_option linter.unusedVariables false
set_option maxRecDepth 8000
set_option linter.unusedSimpArgs false

theorem Dk.reg {d : Md} (h : Dk d) (k : Nat) (v : Int) : Dk (d.reg k (v % 65536)) := h.setR k _ (by omega) (by omega)
theorem dk_pl {d : Md} (h : Dk d) (mo re : Nat) : Dk (d.plD mo re) := by
  unfold Md.plD Md.adD Md.fet
  repeat' split
  all_goals first | exact h | exact h.reg _ _
theorem dk_pc {d : Md} (h : Dk d) (st : Int) (o : Od) : Dk (d.pcD st o) := by
  unfold Md.pcD
  split
  · exact dk_pl h _ _
  · exact h
theorem pc_no (d : Md) (st : Int) (o : Od) (h : d.pcO st o = false) : d.pcD st o = d := by
  unfold Md.pcD
  rw [h]
  simp
theorem dk_st {d : Md} (h : Dk d) (r p n : Int) : Dk (d.stD r p n) := by
  unfold Md.stD Md.put
  repeat' split
  all_goals first | exact h | exact h.setM _ _ (by omega) (by omega) | exact h.setR _ _ (by omega) (by omega)
/-- What is stored there stands there. -/
theorem ld_st (d : Md) (r p n : Int) (h : d.ldB r p = true) : (d.stD r p n).ldB r p = true ∧ (d.stD r p n).ldV r p = n % 65536 := by
  by_cases h1 : r = -1
  · have hh : d.has p = true := by unfold Md.ldB at h; rw [if_pos h1] at h; exact h
    obtain ⟨ta, tl⟩ := has_t hh
    obtain ⟨t0, t1, _⟩ := adB_t ta
    have e : d.stD r p n = ⟨d.m.set (p / 2).toNat (n % 65536), d.r, d.i, d.o⟩ := by unfold Md.stD Md.put; rw [if_pos h1, if_pos hh]
    have h2 : (d.stD r p n).has p = true := by
      rw [e]
      unfold Md.has
      rw [ta]
      simp
      exact tl
    refine ⟨by unfold Md.ldB; rw [if_pos h1]; exact h2, ?_⟩
    unfold Md.ldV Md.get
    rw [if_pos h1, if_pos h2, e]
    exact nAt_set_same _ _ _ (by omega)
  · have h3 := h
    unfold Md.ldB at h3
    rw [if_neg h1] at h3
    simp only [Bool.and_eq_true, beq_iff_eq] at h3
    obtain ⟨b1, b2⟩ := h3
    obtain ⟨b3, b4⟩ := inB_b b1
    have e : d.stD r p n = ⟨d.m, d.r.set r.toNat (n % 65536), d.i, d.o⟩ := by unfold Md.stD; rw [if_neg h1, if_pos h]
    have h2 : (d.stD r p n).ldB r p = true := by
      unfold Md.ldB
      rw [if_neg h1, e]
      simp only [List.length_set]
      rw [b1, b2]
      rfl
    refine ⟨h2, ?_⟩
    unfold Md.ldV
    rw [if_neg h1, if_pos h2, e]
    exact nAt_set_same _ _ _ (by omega)
end Go.Proofs.Ytfkmibgamkignaa
