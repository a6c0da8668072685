/- Contracts of chapter 3's model and of the laws' copies of operands and instructions, over this seat's translation; conditions stand as hypotheses of each. -/
import Derived.Test.YtomoakfemdjpbaaDoorInsA
import Derived.Laws.ResultCell
import Derived.Laws.Rows
namespace Go.Proofs.YtomoakfemdjpbaaDoor
open Go.ChangeShapes Go.WideShapes Go.ChangeAt Go.RowKit
set_option linter.unusedVariables false

set_option maxHeartbeats 1000000 in
theorem zero_any (o : Od) (w : World) : Calls Tryd.prog 41 #[o.v] w fun e w' => e = .returned (.bool o.zero) ∧ Below w.heap.size w w' := by
  obtain ⟨m, r, x⟩ := o
  unfold Od.zero Od.v
  simp only
  go_enter Tryd.func41, Tryd.ntmps41
  go_wp2
  all_goals go_ret
  all_goals refine ⟨?_, (Below.refl _ _).alloc (Nat.le_refl _) _⟩
  all_goals simp_all

set_option maxHeartbeats 1000000 in
theorem toOpd_any (o : Od) (w : World) : Calls Tryd.prog 45 #[o.v] w fun e w' => e = .returned o.v ∧ Below w.heap.size w w' := by
  obtain ⟨m, r, x⟩ := o
  unfold Od.v
  simp only
  have hB : ∀ o1 o2 o3, Below w.heap.size w (((w.alloc o1).alloc o2).alloc o3) := fun o1 o2 o3 => (((Below.refl _ _).alloc (Nat.le_refl _) _).alloc (by simp) _).alloc (by simp; omega) _
  have hG : ∀ o1 o2 o3, (((w.alloc o1).alloc o2).alloc o3).heap[w.heap.size + 1]? = some o2 := fun o1 o2 o3 => by
    have h1 : (w.alloc o1).heap.size = w.heap.size + 1 := by simp
    have h2 : ((w.alloc o1).alloc o2).heap[w.heap.size + 1]? = some o2 := by rw [← h1]; exact Array.getElem?_push_size
    exact ((Below.refl ((w.alloc o1).alloc o2).heap.size _).alloc (Nat.le_refl _) o3).block _ (by simp) |>.trans h2
  have HB := hide hB
  have HG := hide hG
  clear hB hG
  go_enter Tryd.func45, Tryd.ntmps45
  go_wp2
  refine bodyPost_ret (results_cell_row (P := Tryd.prog) rfl _ _ (w.heap.size + 1) 25 #[.int .i64 m, .int .i64 r, .int .i64 x] (0, 0) _ rfl (unhide HG _ _ _) Tryd.underlying25 rfl (by kernel_rfl)) rfl ?_
  exact ⟨rfl, unhide HB _ _ _⟩
end Go.Proofs.YtomoakfemdjpbaaDoor
