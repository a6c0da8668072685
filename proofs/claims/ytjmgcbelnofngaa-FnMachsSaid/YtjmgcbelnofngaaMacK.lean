/- The program's machine: a word written, and the answer; over this seat's translation; conditions stand as hypotheses of each. -/
import Derived.Test.YtjmgcbelnofngaaMacJ
namespace Go.Proofs.Ytjmgcbelnofngaa
open Go.ChangeShapes Go.WideShapes Go.ChangeAt Go.RowKit
set_option linter.unusedVariables false
set_option linter.unusedSimpArgs false

theorem bigA_set {mem : List Int} (y : Mv) (k : Nat) (v : Int) (hm : mem.length = 256) (hk : k < 256) : (bigA mem y).setIfInBounds k (.int .i64 v) = bigA (mem.set k v) y := by
  unfold bigA
  rw [List.setIfInBounds_toArray, List.set_append_left _ _ (by rw [cellsN_length]; omega)]
  congr 2
  unfold cellsN
  rw [List.map_set]

theorem quo2 {a : Int} {k : Nat} (h0 : 0 ≤ a) (h1 : a < 9223372036854775807) (hk : a / 2 = (k : Int)) : IntKind.i64.wrap (a.tdiv 2) = (k : Int) := by
  rw [Int.tdiv_eq_ediv_of_nonneg h0, IntKind.wrap_i64]
  omega

set_option maxHeartbeats 1000000 in
theorem setWord_any (g : Nat) (a n : Int) (mem : List Int) (y : Mv) (w : World) (h0 : 0 ≤ a) (h1 : a < 512) (hm : mem.length = 256) (hg : w.heap[g]? = some (.cells (bigA mem y) 60 (0, 0))) :
    Calls Try.prog 42 #[.pointer (some ⟨g, 0, none⟩), .int .i64 a, .int .i64 n] w fun e w' => e = .returned (.tuple #[]) ∧ w'.heap[g]? = some (.cells (bigA (mem.set (a / 2).toNat (n % 65536)) y) 60 (0, 0)) ∧ w.grownBy w' (some g) := by
  obtain ⟨k, hk⟩ := Int.eq_ofNat_of_zero_le (show 0 ≤ a / 2 by omega)
  have hk2 : k < 256 := by omega
  have hc : w.cell? ⟨g, k, none⟩ = some (.int .i64 (nAt mem k)) := (cell_of_row w g k _ 60 _ hg).trans (bigA_mem y hm hk2)
  have hf : w.frozen? ⟨g, k, none⟩ = false := by simp [World.frozen?, hg]
  rw [hk, show ((k : Int)).toNat = k by omega]
  have hgd : w.drew.heap[g]? = some (.cells (bigA mem y) 60 (0, 0)) := hg
  have E1 := hide ((show (w.drew.setCell ⟨g, k, none⟩ (.int .i64 (n % 65536))).heap[g]? = some (.cells (bigA (mem.set k (n % 65536)) y) 60 (0, 0)) by rw [setCell_eq_setRow w.drew g k _ 60 (0, 0) _ hgd, bigA_set y k _ hm hk2]; exact setRow_heap w.drew g _ _ 60 _ hgd))
  have E2 := hide (grownBy_trans (grownBy_below (r := some g) (below_drew (w := w))) (grownBy_set (w := w.drew) (b := g) (o := k) (.int .i64 (n % 65536))))
  have WR := hide (fun w => wrapI_any n w)
  generalize n % 65536 = q at E1 E2 WR ⊢
  have hki : (k : Int) < 256 := by omega
  have HQ := hide (quo2 h0 (by omega) hk)
  clear hg hgd hk
  go_enter Try.func42, Try.ntmps42
  go_wp2_with fail
  refine wp_region_any (by kernel_rfl) ?_
  change wpAny _ _ _ _ _ _ _ (World.drew _)
  refine wpAny_take (i := 0) (v := .pointer (some ⟨g, 0, none⟩)) rfl (by kernel_rfl) (by kernel_rfl) (by kernel_rfl) (fun _ _ _ h => h) (Or.inl ⟨by rfl, fun w => ?_⟩) ?_
  · go_simp
  go_simp
  refine wpAny_take (i := 1) (v := .int .i64 a) rfl (by kernel_rfl) (by kernel_rfl) (by kernel_rfl) (fun _ _ _ h => h) (Or.inl ⟨by rfl, fun w => ?_⟩) ?_
  · go_simp
  go_simp
  refine wpAny_take (i := 2) (v := .int .i64 (k : Int)) rfl (by kernel_rfl) (by kernel_rfl) (by kernel_rfl) (fun _ _ _ h => h) (Or.inl ⟨by rfl, fun w => ?_⟩) ?_
  · have hq' := unhide HQ
    go_simp
  go_simp
  refine wpAny_take (i := 3) (v := .int .i64 n) rfl (by kernel_rfl) (by kernel_rfl) (by kernel_rfl) (fun _ _ _ h => h) (Or.inl ⟨by rfl, fun w => ?_⟩) ?_
  · go_simp
  go_simp
  refine wpAny_take (i := 5) (v := .pointer (some ⟨g, 0, none⟩)) rfl (by kernel_rfl) (by kernel_rfl) (by kernel_rfl) (fun _ _ _ h => h) (Or.inl ⟨by rfl, fun w => ?_⟩) ?_
  · go_simp
  go_simp
  refine wpAny_ready (rs := [4]) (by kernel_rfl) (by simp) ?_
  refine AllReady.cons rfl (fun K hK => ?_) AllReady.nil
  go_simp
  refine (unhide WR _).mono ?_
  rintro e w' ⟨rfl, hw'⟩
  rw [hw']
  clear hw' w'
  refine hK _ _ ?_
  clear hK K
  refine wpAny_take (i := 6) (v := .pointer (some ⟨g, k, none⟩)) rfl (by kernel_rfl) (by kernel_rfl) (by kernel_rfl) (fun _ _ _ h => h) (Or.inl ⟨by rfl, fun w => ?_⟩) ?_
  · go_simp
  go_simp
  refine wpAny_ready (rs := [7]) (by kernel_rfl) (by simp) ?_
  refine AllReady.cons rfl (fun K hK => ?_) AllReady.nil
  go_simp
  refine hK _ _ ?_
  clear hK K
  refine wpAny_done (by kernel_rfl) ?_ _
  go_wp2
  go_end0
  exact ⟨rfl, unhide E1, unhide E2⟩
end Go.Proofs.Ytjmgcbelnofngaa
