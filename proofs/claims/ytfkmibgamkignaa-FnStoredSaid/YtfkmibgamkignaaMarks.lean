/- Contracts carried over to this seat by program, out of texts over another seat of the same commit; conditions stand as hypotheses of each. -/
import Derived.Test.YtfkmibgamkignaaInts
namespace Go.Proofs.Ytfkmibgamkignaa
open Go.ChangeShapes Go.WideShapes Go.ChangeAt Go.RowKit
set_option linter.unusedVariables false
set_option maxRecDepth 8000

theorem markS_none (k0 : Nat) (w : World) (hk0 : k0 ≤ 1048576) : Calls Try.prog 35 #[.slice none 0 0, .int .i64 k0] w fun e w' => e = .returned (.int .i64 (k0 : Int)) ∧ w' = w := by
  go_enter Try.func35, Try.ntmps35
  go_wp2
  go_loop [1, 5] (fun kk i => kk = .int .i64 k0 ∧ i = .int .i64 0) (fun _ _ => 0)
  case atStart => exact ⟨rfl, rfl⟩
  case round =>
    obtain ⟨rfl, rfl⟩ := hrel
    go_wp2
    go_ret
    exact ⟨rfl, rfl⟩

theorem markS_own (v : Value) (ns : List Int) (B : Nat) (w : World) (hm : ns.length ≤ 1048576) (h : OwnN w B v ns) :
    Calls Try.prog 35 #[v, .int .i64 1] w fun e w' => e = .returned (.int .i64 (1 + (ns.length : Int))) ∧ OwnN w' B v (markN 1 ns.length) ∧ w.grownBy w' v.ownBlock := by
  rcases h.form with ⟨rfl, rfl⟩ | ⟨g, cap, rfl, hg, hlt, hc, hm2⟩
  · exact (markS_none 1 w (by omega)).mono fun e w' ⟨he, hw⟩ => by subst hw; exact ⟨he, ownN_none _ _, World.grownBy.refl _ _⟩
  · exact (markS_any g ns.length cap 1 ns B w rfl (by omega) (by omega) h).mono fun e w' ⟨he, ho, hg⟩ => ⟨he, ho, hg⟩

theorem heldS_own (v : Value) (n : Nat) (B : Nat) (w : World) (hm : n ≤ 1048576) (h : OwnN w B v (markN 1 n)) :
    Calls Try.prog 76 #[v, .int .i64 1] w fun e w' => e = .returned (.int .i64 (1 + (n : Int))) ∧ w' = w := by
  obtain ⟨a, cap, rfl, _, _, hr, _⟩ := h.rd
  rw [markN_length]
  exact heldS_any a n cap 1 w (by omega) (by omega) hr
end Go.Proofs.Ytfkmibgamkignaa
