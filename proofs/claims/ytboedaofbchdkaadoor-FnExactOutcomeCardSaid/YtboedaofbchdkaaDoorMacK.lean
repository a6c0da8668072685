/- The program's machine: a word written, and the answer; over this seat's translation; conditions stand as hypotheses of each. -/
import Derived.Test.YtboedaofbchdkaaDoorMacJ
namespace Go.Proofs.YtboedaofbchdkaaDoor
open Go.ChangeShapes Go.WideShapes Go.ChangeAt Go.RowKit
set_option linter.unusedVariables false
set_option maxRecDepth 8000
set_option linter.unusedSimpArgs false

theorem bigA_set {mem : List Int} (y : Mv) (k : Nat) (v : Int) (hm : mem.length = 256) (hk : k < 256) : (bigA mem y).setIfInBounds k (.int .i64 v) = bigA (mem.set k v) y := by
  unfold bigA
  rw [List.setIfInBounds_toArray, List.set_append_left _ _ (by rw [cellsN_length]; omega)]
  congr 2
  unfold cellsN
  rw [List.map_set]

theorem quo2 {a : Int} {k : Nat} (h0 : 0 ≤ a) (h1 : a < 9223372036854775807) (hk : a / 2 = (k : Int)) : IntKind.i64.wrap (a.tdiv 2) = (k : Int) := by
  rw [Int.tdiv_eq_ediv_of_nonneg h0, IntKind.wrap_i64]
  omega

set_option maxHeartbeats 1000000 in
theorem setWord_any (g : Nat) (a n : Int) (mem : List Int) (y : Mv) (w : World) (h0 : 0 ≤ a) (h1 : a < 512) (hm : mem.length = 256) (hg : w.heap[g]? = some (.cells (bigA mem y) 55 (0, 0))) :
    Calls Tryd.prog 29 #[.pointer (some ⟨g, 0, none⟩), .int .i64 a, .int .i64 n] w fun e w' => e = .returned (.tuple #[]) ∧ w'.heap[g]? = some (.cells (bigA (mem.set (a / 2).toNat (n % 65536)) y) 55 (0, 0)) ∧ w.grownBy w' (some g) := by
  obtain ⟨k, hk⟩ := Int.eq_ofNat_of_zero_le (show 0 ≤ a / 2 by omega)
  have hk2 : k < 256 := by omega
  have hc : w.cell? ⟨g, k, none⟩ = some (.int .i64 (nAt mem k)) := (cell_of_row w g k _ 55 _ hg).trans (bigA_mem y hm hk2)
  have hf : w.frozen? ⟨g, k, none⟩ = false := by simp [World.frozen?, hg]
  rw [hk, show ((k : Int)).toNat = k by omega]
  have E1 := hide ((show (w.setCell ⟨g, k, none⟩ (.int .i64 (n % 65536))).heap[g]? = some (.cells (bigA (mem.set k (n % 65536)) y) 55 (0, 0)) by rw [setCell_eq_setRow w g k _ 55 (0, 0) _ hg, bigA_set y k _ hm hk2]; exact setRow_heap w g _ _ 55 _ hg))
  have E2 := hide (grownBy_set (w := w) (b := g) (o := k) (.int .i64 (n % 65536)))
  have WR := hide (fun w => wrapI_any n w)
  generalize n % 65536 = q at E1 E2 WR ⊢
  have CL := hide (fun w => cell_at g a w h0 h1)
  rw [hk, show ((k : Int)).toNat = k by omega] at CL
  clear hg hk
  go_enter Tryd.func29, Tryd.ntmps29
  go_wp2_with fail
  refine (unhide CL _).mono ?_
  rintro e w' ⟨rfl, rfl⟩
  go_wp2_with fail
  refine (unhide WR _).mono ?_
  rintro e w' ⟨rfl, rfl⟩
  go_wp2
  go_end0
  exact ⟨rfl, unhide E1, unhide E2⟩
end Go.Proofs.YtboedaofbchdkaaDoor
