/- Contracts of strconv.FormatInt at base 8 and of the program's Oct, over this seat's translation; conditions stand as hypotheses of each. -/
import Derived.Test.YthamfifknemapaaDoorFmtC
namespace Go.Proofs.YthamfifknemapaaDoor
open Go.ChangeShapes Go.WideShapes Go.ChangeAt Go.RowKit
set_option linter.unusedVariables false

set_option maxHeartbeats 400000 in
theorem fmtInt_any (N : Nat) (hN : N < 65536) (w : World) (hg : w.cell? ⟨4, 7, none⟩ = some (.int .u8 3)) :
    Calls Tryd.prog 24 #[.int .i64 N, .int .i64 8] w fun e w' => e = .returned (.string (strOf (octD N))) ∧ Below w.heap.size w w' := by
  have H := hide (fmtBits_any N hN w hg)
  clear hg
  go_enter Tryd.func24, Tryd.ntmps24
  go_wp2_with fail
  refine (unhide H).mono ?_
  rintro e w1 ⟨rfl, hb⟩
  go_wp2
  go_ret
  exact ⟨rfl, hb⟩

set_option maxHeartbeats 400000 in
theorem octI_any (n : Int) (w : World) (hg : w.cell? ⟨4, 7, none⟩ = some (.int .u8 3)) :
    Calls Tryd.prog 8 #[.int .i64 n] w fun e w' => e = .returned (.string (strOf (octD (n % 65536).toNat))) ∧ Below w.heap.size w w' := by
  obtain ⟨N, hN⟩ := Int.eq_ofNat_of_zero_le (Int.emod_nonneg n (show (65536 : Int) ≠ 0 by omega))
  have hlt : N < 65536 := by have := Int.emod_lt_of_pos n (show (0 : Int) < 65536 by omega); omega
  rw [hN, Int.toNat_natCast]
  have HN := hide hN
  have H := hide (fmtInt_any N hlt w hg)
  clear hN hg
  go_enter Tryd.func8, Tryd.ntmps8
  go_wp2_with fail
  refine (wrapI_any n w).mono ?_
  rintro e w' ⟨he, hw'⟩
  rw [unhide HN] at he
  rw [hw', he]
  clear hw' he w'
  go_wp2_with (first | (go_at_call 24; refine (unhide H).mono ?_; rintro e w1 ⟨rfl, hb⟩) | go_in)
  go_ret
  exact ⟨rfl, hb⟩
end Go.Proofs.YthamfifknemapaaDoor
