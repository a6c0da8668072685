/- The laws' copy of a term, by its parts; over this seat's translation; conditions stand as hypotheses of each. -/
import Derived.Test.YthgbpofcfmnpdaaDoorOxG
import Derived.Laws.Rows
import Derived.Lib.Builder
namespace Go.Proofs.YthgbpofcfmnpdaaDoor
open Go.ChangeShapes Go.WideShapes Go.ChangeAt Go.RowKit
set_option linter.unusedVariables false
set_option maxRecDepth 8000
theorem three_new (w : World) (o1 o2 o3 : Obj) : Below w.heap.size w (((w.alloc o1).alloc o2).alloc o3) ∧ (((w.alloc o1).alloc o2).alloc o3).heap[w.heap.size + 1]? = some o2 ∧ (((w.alloc o1).alloc o2).alloc o3).heap[w.heap.size + 1 + 1]? = some o3 := by
  have h1 : (w.alloc o1).heap.size = w.heap.size + 1 := by simp
  have h2 : ((w.alloc o1).alloc o2).heap.size = w.heap.size + 1 + 1 := by simp
  have p2 : ((w.alloc o1).alloc o2).heap[w.heap.size + 1]? = some o2 := by rw [← h1]; exact Array.getElem?_push_size
  refine ⟨(((Below.refl _ _).alloc (Nat.le_refl _) _).alloc (by simp) _).alloc (by simp; omega) _, ?_, ?_⟩
  · exact ((Below.refl ((w.alloc o1).alloc o2).heap.size _).alloc (Nat.le_refl _) o3).block _ (by simp) |>.trans p2
  · rw [← h2]; exact Array.getElem?_push_size
theorem row4_set {w : World} {g : Nat} {u0 u1 u2 u3 : Value} {t : TypeId} (h : w.heap[g]? = some (.cells #[u0, u1, u2, u3] t (0, 0))) (v0 v1 v2 v3 : Value) : ((((w.setCell ⟨g, 0, none⟩ v0).setCell ⟨g, 1, none⟩ v1).setCell ⟨g, 2, none⟩ v2).setCell ⟨g, 3, none⟩ v3).heap[g]? = some (.cells #[v0, v1, v2, v3] t (0, 0)) :=
  heap_setCell_same _ g 3 _ t v3 (heap_setCell_same _ g 2 _ t v2 (heap_setCell_same _ g 1 _ t v1 (heap_setCell_same _ g 0 _ t v0 h)))
set_option maxHeartbeats 1000000 in
theorem toX_any (e : Ex) : ToP e := by
  induction e using Ex.ind with
  | h k n s l ih =>
    intro b cap w hr hz
    have e2 : (Ex.mk k n s l).l = l := rfl
    obtain ⟨W, hW⟩ : ∃ W, ((w.alloc (.cells #[.int .i64 k, .int .i64 n, .string s, .slice b l.length cap] 47)).alloc (.cells #[.int .i64 0, .int .i64 0, .string ⟨#[]⟩, .slice none 0 0] 37)).alloc (.cells #[.int .i64 k, .int .i64 n, .string s, .slice none 0 0] 37) = W := ⟨_, rfl⟩
    obtain ⟨hb, hg1, hg2⟩ := three_new w (.cells #[.int .i64 k, .int .i64 n, .string s, .slice b l.length cap] 47) (.cells #[.int .i64 0, .int .i64 0, .string ⟨#[]⟩, .slice none 0 0] 37) (.cells #[.int .i64 k, .int .i64 n, .string s, .slice none 0 0] 37)
    have hsz : w.heap.size + 3 = W.heap.size := by rw [← hW]; simp
    rw [hW] at hb hg1 hg2
    have HC := toXS_of ⟨k, n, s, l⟩ (fun i hi => ih _ (xAt_mem hi)) b cap W (hr.later hb) hz
    rw [e2] at HC
    have HD := HC.mono (R' := fun r w' => ∃ g, r = .returned (.slice (some ⟨g, 0, none⟩) l.length l.length) ∧ NewX w' (w.heap.size + 3) ⟨k, n, s, l⟩ (some ⟨g, 0, none⟩) ∧ Below w.heap.size w w' ∧ w'.heap[w.heap.size + 1]? = some (.cells #[.int .i64 0, .int .i64 0, .string ⟨#[]⟩, .slice none 0 0] 37 (0, 0)) ∧ w'.heap[w.heap.size + 1 + 1]? = some (.cells #[.int .i64 k, .int .i64 n, .string s, .slice none 0 0] 37 (0, 0))) (by
      rintro r w' ⟨rfl, h1, h2⟩
      exact ⟨_, rfl, h1.lower (by omega), hb.trans (h2.mono (by omega)), (h2.block _ (by omega)).trans hg1, (h2.block _ (by omega)).trans hg2⟩)
    have HH := hide HD
    rw [← hW] at HH
    unfold Ex.cs
    simp only
    clear hr hz ih HC HD hb hg1 hg2 hW hsz e2 W
    generalize hll : l.length = ll at *
    go_enter Tryd.func29, Tryd.ntmps29
    go_wp2_with fail
    refine (unhide HH).mono ?_
    rintro r w2 ⟨g, rfl, hrd, hb2, hg1, hg2⟩
    have a0 := Lib.cell_of_heap hg1 0
    have a1 := Lib.cell_of_heap hg1 1
    have a2 := Lib.cell_of_heap hg1 2
    have a3 := Lib.cell_of_heap hg1 3
    have b0 := Lib.cell_of_heap hg2 0
    have b1 := Lib.cell_of_heap hg2 1
    have b2 := Lib.cell_of_heap hg2 2
    have b3 := Lib.cell_of_heap hg2 3
    have f0 := Lib.frozen_of_heap hg1 0
    have f1 := Lib.frozen_of_heap hg1 1
    have f2 := Lib.frozen_of_heap hg1 2
    have f3 := Lib.frozen_of_heap hg1 3
    have f4 := Lib.frozen_of_heap hg2 3
    clear HH
    have hg3 : (w2.setCell ⟨w.heap.size + 1 + 1, 3, none⟩ (.slice (some ⟨g, 0, none⟩) ll ll)).heap[w.heap.size + 1]? = _ := (heap_setCell_other w2 ⟨w.heap.size + 1 + 1, 3, none⟩ (w.heap.size + 1) (.slice (some ⟨g, 0, none⟩) ll ll) (by simp)).trans hg1
    have H1 := hide (fun v0 v1 v2 v3 => row4_set hg3 v0 v1 v2 v3)
    have R := hide (fun u v0 v1 v2 v3 => ((((hrd.far ⟨w.heap.size + 1 + 1, 3, none⟩ u (by simp)).far ⟨w.heap.size + 1, 0, none⟩ v0 (by simp)).far ⟨w.heap.size + 1, 1, none⟩ v1 (by simp)).far ⟨w.heap.size + 1, 2, none⟩ v2 (by simp)).far ⟨w.heap.size + 1, 3, none⟩ v3 (by simp))
    have B := hide (fun u v0 v1 v2 v3 => ((((hb2.setCell (p := ⟨w.heap.size + 1 + 1, 3, none⟩) (by simp; omega) u).setCell (p := ⟨w.heap.size + 1, 0, none⟩) (by simp) v0).setCell (p := ⟨w.heap.size + 1, 1, none⟩) (by simp) v1).setCell (p := ⟨w.heap.size + 1, 2, none⟩) (by simp) v2).setCell (p := ⟨w.heap.size + 1, 3, none⟩) (by simp) v3)
    clear hrd hb2 hg3
    go_wp2
    refine bodyPost_ret (results_cell_row (P := Tryd.prog) rfl _ _ (w.heap.size + 1) 37 #[.int .i64 k, .int .i64 n, .string s, .slice (some ⟨g, 0, none⟩) ll ll] (0, 0) _ rfl (unhide H1 _ _ _ _) Tryd.underlying37 rfl (by kernel_rfl)) rfl ?_
    exact ⟨_, _, rfl, (unhide R _ _ _ _ _).lower (by omega), unhide B _ _ _ _ _⟩
end Go.Proofs.YthgbpofcfmnpdaaDoor
