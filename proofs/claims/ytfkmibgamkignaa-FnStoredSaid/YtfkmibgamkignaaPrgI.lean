/- Where an operand is, by the program's machine, for every operand that is right; over this seat's translation; conditions stand as hypotheses of each. -/
import Derived.Test.YtfkmibgamkignaaPrgH
namespace Go.Proofs.Ytfkmibgamkignaa
open Go.ChangeShapes Go.WideShapes Go.ChangeAt Go.RowKit
set_option linter.unusedVariables false
set_option maxRecDepth 8000
set_option linter.unusedSimpArgs false

theorem po_no {g B gr rc re : Nat} {X : Int} {y : Mv} {w : World} {mo rr aa : Int} {d2 d3 : Md} (h : PoIs g B gr rc re X y w mo rr aa false d2) : PoIs g B gr rc re X y w mo rr aa false d3 := by
  unfold PoIs at h ⊢
  exact h.mono fun e w' ⟨a, _, c⟩ => ⟨a, fun h => Bool.noConfusion h, c⟩
theorem po_any (g B gr rc mo re : Nat) (X : Int) (y : Mv) (d : Md) (w : World) (P : Pg w g B gr rc y d) (h8 : d.R8) (hr : re < 8) (hs : y.small) (hx : 0 ≤ d.get (nAt d.r 7) ∧ d.get (nAt d.r 7) ≤ 65535) (h7 : mo ≤ 7) (hlt : gr < w.heap.size) (hgl : g < w.heap.size) :
    PoIs g B gr rc re X y w (mo : Int) (d.plR mo re) (d.plA mo re) (d.plO mo re) (d.plD mo re) := by
  rcases (show mo = 0 ∨ mo = 1 ∨ mo = 2 ∨ mo = 3 ∨ mo = 4 ∨ mo = 5 ∨ mo = 6 ∨ mo = 7 by omega) with rfl | rfl | rfl | rfl | rfl | rfl | rfl | rfl
  · simpa [Md.plR, Md.plA, Md.plO, Md.plD] using po_0 g B gr rc re X y d w P h8 hr hs hlt hgl
  · simpa [Md.plR, Md.plA, Md.plO, Md.plD, Md.adD, Md.adV, Md.adO, oddM] using po_1 g B gr rc re X y d w P h8 hr hs hlt hgl
  · simpa [Md.plR, Md.plA, Md.plO, Md.plD, Md.adD, Md.adV, Md.adO, oddM] using po_2 g B gr rc re X y d w P h8 hr hs hlt hgl
  · simpa [Md.plR, Md.plA, Md.plO, Md.plD, Md.adD, Md.adV, Md.adO, oddM] using po_3 g B gr rc re X y d w P h8 hr hs hlt hgl
  · simpa [Md.plR, Md.plA, Md.plO, Md.plD, Md.adD, Md.adV, Md.adO, oddM] using po_4 g B gr rc re X y d w P h8 hr hs hlt hgl
  · simpa [Md.plR, Md.plA, Md.plO, Md.plD, Md.adD, Md.adV, Md.adO, oddM] using po_5 g B gr rc re X y d w P h8 hr hs hlt hgl
  · cases hq : d.has (nAt d.r 7)
    · have h := po_6n g B gr rc re X y d w P h8 hr hs hlt hgl hx hq
      simpa [Md.plR, Md.plA, Md.plO, Md.adO, oddM, hq] using po_no (d3 := d.plD 6 re) h
    · have h := po_6y g B gr rc re X y d w P h8 hr hs hlt hgl hx hq
      have hf : d.fet = d.reg 7 ((nAt d.r 7 + 2) % 65536) := by unfold Md.fet; rw [if_pos hq]
      rw [← hf] at h
      simpa [Md.plR, Md.plA, Md.plO, Md.plD, Md.adD, Md.adV, Md.adO, oddM, hq] using h
  · cases hq : d.has (nAt d.r 7)
    · have h := po_7n g B gr rc re X y d w P h8 hr hs hlt hgl hx hq
      simpa [Md.plR, Md.plA, Md.plO, Md.adO, oddM, hq] using po_no (d3 := d.plD 7 re) h
    · have h := po_7y g B gr rc re X y d w P h8 hr hs hlt hgl hx hq
      have hf : d.fet = d.reg 7 ((nAt d.r 7 + 2) % 65536) := by unfold Md.fet; rw [if_pos hq]
      rw [← hf] at h
      simpa [Md.plR, Md.plA, Md.plO, Md.plD, Md.adD, Md.adV, Md.adO, oddM, hq] using h
end Go.Proofs.Ytfkmibgamkignaa
