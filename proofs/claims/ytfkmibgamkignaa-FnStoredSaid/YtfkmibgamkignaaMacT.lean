/- Words laid into the program's memory; over this seat's translation; conditions stand as hypotheses of each. -/
import Derived.Test.YtfkmibgamkignaaMacS
namespace Go.Proofs.Ytfkmibgamkignaa
open Go.ChangeShapes Go.WideShapes Go.ChangeAt Go.RowKit
set_option linter.unusedVariables false
set_option maxRecDepth 8000
set_option linter.unusedSimpArgs false

set_option maxHeartbeats 1000000 in
theorem setWords_any (g : Nat) (a : Int) (im : Sl) (ni mem : List Int) (y : Mv) (w : World) (h0 : 0 ≤ a) (h1 : a ≤ 510) (h2 : a % 2 = 0) (hl : ni.length = im.n) (hfit : (im.n : Int) ≤ 256 - a / 2) (hw : wdB ni = true) (hm : mem.length = 256)
    (hg : w.heap[g]? = some (.cells (bigA mem y) 80 (0, 0))) (hr : RdN w im.a ni) (hne : ni = [] ∨ ∀ ad, im.a = some ad → ad.block ≠ g) :
    Calls Try.prog 53 #[.pointer (some ⟨g, 0, none⟩), .int .i64 a, .slice im.a im.n im.c] w fun e w' => e = .returned (.tuple #[]) ∧ w'.heap[g]? = some (.cells (bigA (over mem (a / 2).toNat ni) y) 80 (0, 0)) ∧ w.grownBy w' (some g) := by
  obtain ⟨ima, imn, imc⟩ := im
  simp only at hl hfit hr hne ⊢
  obtain ⟨k, hk⟩ := Int.eq_ofNat_of_zero_le (show 0 ≤ a / 2 by omega)
  have hkk : (a / 2).toNat = k := by omega
  rw [hkk]
  have ka : a = 2 * (k : Int) := by omega
  have kb : k + imn ≤ 256 := by omega
  have KA := hide ka
  have HNE := hide hne
  have HG := hide hg
  have HR := hide hr
  have HL := hide hl
  have HW := hide hw
  clear hne hk hkk hg hr hl hw ka h2 hfit
  go_enter Try.func53, Try.ntmps53
  go_wp2
  go_loopw [6, 7, 10] (fun _ _ i wr => ∃ j : Nat, j ≤ imn ∧ i = .int .i64 j ∧ wr.heap[g]? = some (.cells (bigA (over mem k (ni.take j)) y) 80 (0, 0)) ∧ w.grownBy wr (some g)) (fun _ _ i _ => imn - (intOf i).toNat)
  case atStart => exact ⟨0, Nat.zero_le _, rfl, by rw [List.take_zero, over_nil]; exact unhide HG, World.grownBy.refl _ _⟩
  case round =>
    obtain ⟨j, hj, rfl, hrow, hgr⟩ := hrel
    have RW := hide hrow
    have GRW := hide hgr
    clear hrow hgr
    by_cases hlt : j < imn
    · have hl := unhide HL
      have hwj := wdB_at (unhide HW) (k := j) (by omega)
      rcases (unhide HR).pastR (unhide GRW) (fun b e => by cases e; exact unhide HNE) with e0 | ⟨b, off, rfl, hbl, hcl⟩
      · rw [e0] at hl; simp at hl; omega
      have hc := hcl j (by omega)
      have hlen : (over mem k (ni.take j)).length = 256 := by rw [over_len _ _ _ (by rw [hm, List.length_take]; omega), hm]
      have ka := unhide KA
      have W := hide (setWord_any g (a + 2 * (j : Int)) (nAt ni j) (over mem k (ni.take j)) y wr (by omega) (by omega) hlen (unhide RW))
      have e1 : ((a + 2 * (j : Int)) / 2).toNat = k + j := by omega
      have e2 : nAt ni j % 65536 = nAt ni j := by omega
      rw [e1, e2, over_set mem ni k j (by omega) (by omega)] at W
      clear hcl hbl hl e1 e2 hlen hwj
      generalize nAt ni j = q at hc W
      have KA2 := hide ka
      clear ka
      go_wp2_with fail
      refine (unhide W).mono ?_
      rintro e w2 ⟨rfl, r2, g2⟩
      have R2 := hide r2
      have G2 := hide (grownBy_trans (unhide GRW) g2)
      clear r2 g2
      go_wp2
      go_roundw
      case rel => exact ⟨j + 1, by omega, by go_num, unhide R2, unhide G2⟩
      case measure => simp [intOf]; omega
    · obtain rfl : j = imn := by omega
      have hl := unhide HL
      go_wp2
      go_end0
      refine ⟨rfl, ?_, unhide GRW⟩
      have := unhide RW
      rw [List.take_of_length_le (by omega)] at this
      exact this
end Go.Proofs.Ytfkmibgamkignaa
