/- The laws' copies and sizes of tokens; over this seat's translation; conditions stand as hypotheses of each. -/
import Derived.Test.YtemglcdglnjakaaTkE
import Derived.Laws.ResultCell
import Derived.Laws.Rows
namespace Go.Proofs.Ytemglcdglnjakaa
open Go.ChangeShapes Go.WideShapes Go.ChangeAt Go.RowKit
set_option linter.unusedVariables false
set_option maxRecDepth 8000

set_option maxHeartbeats 400000 in
theorem szTok_any (t : Tk) (left : Int) (w : World) (hmax : t.s.size ≤ 9223372036854775807) (h0 : -1 ≤ left) (h1 : left ≤ 1048576) : Calls Try.prog 23 #[t.v, .int .i64 left] w fun e w' => e = .returned (.int .i64 (if left - (t.s.size : Int) < 0 then -1 else left - t.s.size)) ∧ Below w.heap.size w w' := by
  have hB := hide (below_new w (.cells t.cs 44))
  obtain ⟨c0, c1, c2⟩ := box3 w t 44
  unfold Tk.v
  obtain ⟨k, n, s⟩ := t
  simp only at hmax c0 c1 c2 ⊢
  generalize Tk.cs ⟨k, n, s⟩ = cc at *
  by_cases hlt : left - (s.size : Int) < 0
  · rw [if_pos hlt]
    go_enter Try.func23, Try.ntmps23
    go_wp2
    go_ret
    exact ⟨rfl, unhide hB⟩
  · rw [if_neg hlt]
    go_enter Try.func23, Try.ntmps23
    go_wp2
    go_ret
    exact ⟨rfl, unhide hB⟩
set_option maxHeartbeats 1000000 in
theorem toTok_any (t : Tk) (w : World) : Calls Try.prog 25 #[t.v] w fun e w' => e = .returned t.v ∧ Below w.heap.size w w' := by
  obtain ⟨m, r, x⟩ := t
  unfold Tk.v Tk.cs
  simp only
  have hB : ∀ o1 o2 o3, Below w.heap.size w (((w.alloc o1).alloc o2).alloc o3) := fun o1 o2 o3 => (((Below.refl _ _).alloc (Nat.le_refl _) _).alloc (by simp) _).alloc (by simp; omega) _
  have hG : ∀ o1 o2 o3, (((w.alloc o1).alloc o2).alloc o3).heap[w.heap.size + 1]? = some o2 := fun o1 o2 o3 => by
    have h1 : (w.alloc o1).heap.size = w.heap.size + 1 := by simp
    have h2 : ((w.alloc o1).alloc o2).heap[w.heap.size + 1]? = some o2 := by rw [← h1]; exact Array.getElem?_push_size
    exact ((Below.refl ((w.alloc o1).alloc o2).heap.size _).alloc (Nat.le_refl _) o3).block _ (by simp) |>.trans h2
  have HB := hide hB
  have HG := hide hG
  clear hB hG
  go_enter Try.func25, Try.ntmps25
  go_wp2
  refine bodyPost_ret (results_cell_row (P := Try.prog) rfl _ _ (w.heap.size + 1) 45 #[.int .i64 m, .int .i64 r, .string x] (0, 0) _ rfl (unhide HG _ _ _) Try.underlying45 rfl (by kernel_rfl)) rfl ?_
  exact ⟨rfl, unhide HB _ _ _⟩
end Go.Proofs.Ytemglcdglnjakaa
