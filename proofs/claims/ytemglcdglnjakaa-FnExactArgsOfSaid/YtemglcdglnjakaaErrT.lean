/- Contracts of strconv's errors, over this seat's translation; conditions stand as hypotheses of each. -/
import Derived.Test.YtemglcdglnjakaaOctT
import Derived.Lib.BufferWrite
import Derived.Lib.UnsafeStr
import Derived.Lib.IfaceEq
import Derived.Lib.AtoiErrMem
import Derived.Lib.Walk
import Derived.Deep.RegionWith
import Derived.Laws.MakeOwn
import Derived.Laws.Closers25b
namespace Go.Proofs.Ytemglcdglnjakaa
open Go.ChangeShapes Go.WideShapes Go.ChangeAt Go.RowKit
set_option linter.unusedVariables false
theorem info5 : (Try.prog.info? 5).map (fun i => (i.zero, i.size, i.bytes)) = some (some (.int .u8 0), 1, 1) := by kernel_rfl

/-- A text copied into a new row of as many noughts: the row then holds its bytes. -/
theorem copy_text (w : World) (s : ByteArray) : ∃ C : Array Value, C.toList = Lib.byteCells s.data.toList ∧
    (Builtin.copy_ #[52, 9] 3 #[.slice (some ⟨w.heap.size, 0, none⟩) s.size s.size, .string s]).run Try.prog (w.alloc (.cells (madeCells #[.int .u8 0] s.size) 5)) = .ok (goInt s.size) ((w.alloc (.cells (madeCells #[.int .u8 0] s.size) 5)).setRow w.heap.size C) := by
  obtain ⟨i0, hi, _, h1, _⟩ := info_parts info5
  have hn : (madeCells #[Value.int .u8 0] s.size).toList.length = s.size := by rw [toList_madeCells_one, List.length_replicate]
  have h := Lib.run_copy_row_string (P := Try.prog) (w.alloc (.cells (madeCells #[.int .u8 0] s.size) 5)) 52 9 3 5 w.heap.size 0 s.size s.size s _ 5 Try.underlying52 (by rw [hi]; simp [h1]) (heap_alloc_new w _) (Nat.le_refl _) (by rw [← Array.length_toList, hn]; omega)
  refine ⟨_, ?_, h⟩
  rw [List.toList_toArray, List.take_zero, List.nil_append, List.drop_eq_nil_of_le (by rw [hn]; omega), List.append_nil]

/-- The text of a row that holds its bytes. -/
theorem text_of_row (W : World) (g : Nat) (C : Array Value) (s : ByteArray) (hC : C.toList = Lib.byteCells s.data.toList) (hg : W.heap[g]? = some (.cells C 5 (0, 0))) (h0 : s.size ≠ 0) (hlim : s.size ≤ 281474976710656) :
    (Builtin.unsafeString_ #[54, 3] 9 #[.pointer (some ⟨g, 0, none⟩), .int .i64 (s.size : Int)]).run Try.prog W = .ok (.string s) (W.freeze ⟨g, 0, none⟩ s.size) := by
  have hl : s.data.toList.length = s.size := Array.length_toList
  have hCl : C.size = s.size := by rw [← Array.length_toList, hC, Lib.byteCells_length, hl]
  have h := Lib.run_unsafeString_row (P := Try.prog) W 54 3 9 5 Try.underlying54 (by kernel_rfl) g C.size (by unfold World.shape?; rw [hg]) s.data.toList (fun e => h0 (by rw [← hl, e]; rfl)) (by omega) (by omega) (fun j x hx => by
    have hc := Lib.cells_of_row hg C.size j (.int .u8 x.toNat)
    rw [List.take_of_length_le (Nat.le_of_eq Array.length_toList), hC] at hc
    exact hc (by simp only [Lib.byteCells, List.getElem?_map, hx, Option.map_some]))
  rw [hl] at h
  exact h

theorem below_of_row (w : World) (s : ByteArray) (C : Array Value) : Below w.heap.size w ((w.alloc (.cells (madeCells #[.int .u8 0] s.size) 5)).setRow w.heap.size C) :=
  ((Below.refl _ w).alloc (Nat.le_refl _) _).trans ⟨rfl, rfl, rfl, by simp [World.setRow], fun k hk => setRow_other _ _ _ _ (by omega)⟩

set_option maxHeartbeats 1000000 in
set_option maxRecDepth 100000 in
theorem clone_any (s : ByteArray) (w : World) (hlim : s.size ≤ 281474976710656) :
    Calls Try.prog 34 #[.string s] w fun e w' => e = .returned (.string s) ∧ Below w.heap.size w w' := by
  by_cases h0 : s.size = 0
  · obtain rfl : s = ⟨#[]⟩ := by apply ByteArray.ext; exact Array.eq_empty_of_size_eq_zero h0
    go_enter Try.func34, Try.ntmps34
    go_wp2
    go_ret
    exact ⟨rfl, Below.refl _ _⟩
  · have hz : ((s.size : Int) == 0) = false := beq_eq_false_iff_ne.2 (by omega)
    have hp : (0 : Int) < (s.size : Int) := by omega
    have hmk := run_make_row' (P := Try.prog) 52 5 (.int .u8 0) 1 Try.underlying52 info5 rfl .i64 .i64 s.size (by omega) (by omega)
    obtain ⟨C, hC, hcp⟩ := copy_text w s
    have hrow := setRow_heap (w.alloc (.cells (madeCells #[.int .u8 0] s.size) 5)) w.heap.size _ C 5 (0, 0) (heap_alloc_new w _)
    have hus := text_of_row _ w.heap.size C s hC hrow h0 hlim
    have hB := hide (below_of_row w s C)
    clear hC hrow
    go_enter Try.func34, Try.ntmps34
    go_wp2
    go_ret
    exact ⟨rfl, Lib.below_freeze (unhide hB) (p := ⟨w.heap.size, 0, none⟩) (Nat.le_refl _) _⟩

end Go.Proofs.Ytemglcdglnjakaa
