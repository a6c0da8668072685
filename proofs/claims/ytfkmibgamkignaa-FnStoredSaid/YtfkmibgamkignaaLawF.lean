/- An operand that came in, read, and the laws' copy of it; what stays small; over this seat's translation; conditions stand as hypotheses of each. -/
import Derived.Test.YtfkmibgamkignaaPrgK
import Derived.Test.YtfkmibgamkignaaOpenM
import Derived.Test.YtfkmibgamkignaaLawB
import Derived.Test.YtfkmibgamkignaaPlcH
import Derived.Lib.SmallJoins
namespace Go.Proofs.Ytfkmibgamkignaa
open Go.ChangeShapes Go.WideShapes Go.ChangeAt Go.RowKit
set_option linter.unusedVariables false
set_option maxRecDepth 8000
set_option linter.unusedSimpArgs false

section
variable {H : Type} {enc : TypeId × Value → H} {W : World} {b0 base : Nat} {spare : TypeId → Bool} {held : Bool}
def Bd64 (x : Int) : Prop := (Lit.int .i64 x).wf = true
theorem trod_od {fuel : Nat} {cs : List Value} {x : DataW H × List MemPlace} (h : DataW.trod enc Try.prog W base spare held fuel 63 cs = some x) : ∃ o : Od, cs = [.int .i64 o.m, .int .i64 o.r, .int .i64 o.x] ∧ Bd64 o.m ∧ Bd64 o.r ∧ Bd64 o.x := by
  obtain ⟨y0, y1, y2, n, _, hl, h0, h1, h2⟩ := _root_.Go.Deep.trod_struct3 Try.underlying63 h
  have hc : Try.prog.cellsOf 63 = 3 := by kernel_rfl
  have hc3 : Try.prog.cellsOf 3 = 1 := by kernel_rfl
  rw [hc] at hl
  match cs, hl with
  | [c0, c1, c2], _ =>
    obtain ⟨m, e0, _, w0⟩ := DataW.trod_int Try.underlying3 h0
    obtain ⟨r, e1, _, w1⟩ := DataW.trod_int Try.underlying3 h1
    obtain ⟨x, e2, _, w2⟩ := DataW.trod_int Try.underlying3 h2
    simp only [hc3] at e0 e1 e2
    simp at e0 e1 e2
    subst e0 e1 e2
    exact ⟨⟨m, r, x⟩, rfl, w0, w1, w2⟩
theorem open_od {r : Reach} {v : Value} {d : DataW H} {p : List MemPlace} (hv : Value.okWide Try.prog W r b0 63 v) (h : DataW.Trod enc Try.prog W base spare held 63 v d p) : ∃ o : Od, v = o.v ∧ Bd64 o.m ∧ Bd64 o.r ∧ Bd64 o.x := by
  obtain ⟨cs, rfl, hsz⟩ := okWide_struct Try.underlying63 hv
  obtain ⟨fuel, hf⟩ := h
  obtain ⟨o, hcs, b1, b2, b3⟩ := trod_od hf
  refine ⟨o, ?_, b1, b2, b3⟩
  have : cs.toList = [.int .i64 o.m, .int .i64 o.r, .int .i64 o.x] := by simpa [Value.cells] using hcs
  unfold Od.v
  rw [← Array.toArray_toList (xs := cs), this]
end

set_option maxHeartbeats 1000000 in
theorem toOpd_any (o : Od) (w : World) : Calls Try.prog 42 #[o.v] w fun e w' => e = .returned o.v ∧ Below w.heap.size w w' := by
  obtain ⟨m, r, x⟩ := o
  unfold Od.v
  simp only
  have hB : ∀ o1 o2 o3, Below w.heap.size w (((w.alloc o1).alloc o2).alloc o3) := fun o1 o2 o3 => (((Below.refl _ _).alloc (Nat.le_refl _) _).alloc (by simp) _).alloc (by simp; omega) _
  have hG : ∀ o1 o2 o3, (((w.alloc o1).alloc o2).alloc o3).heap[w.heap.size + 1]? = some o2 := fun o1 o2 o3 => by
    have h1 : (w.alloc o1).heap.size = w.heap.size + 1 := by simp
    have h2 : ((w.alloc o1).alloc o2).heap[w.heap.size + 1]? = some o2 := by rw [← h1]; exact Array.getElem?_push_size
    exact ((Below.refl ((w.alloc o1).alloc o2).heap.size _).alloc (Nat.le_refl _) o3).block _ (by simp) |>.trans h2
  have HB := hide hB
  have HG := hide hG
  clear hB hG
  go_enter Try.func42, Try.ntmps42
  go_wp2
  refine bodyPost_ret (results_cell_row (P := Try.prog) rfl _ _ (w.heap.size + 1) 40 #[.int .i64 m, .int .i64 r, .int .i64 x] (0, 0) _ rfl (unhide HG _ _ _) Try.underlying40 rfl (by kernel_rfl)) rfl ?_
  exact ⟨rfl, unhide HB _ _ _⟩

theorem small_reg {d : Md} (h : d.small) (k : Nat) (v : Int) : (d.reg k v).small := ⟨h.1, by simpa [Md.reg] using h.2.1, h.2.2.1, h.2.2.2⟩
theorem small_pl {d : Md} (h : d.small) (mo re : Nat) : (d.plD mo re).small := by
  unfold Md.plD Md.adD Md.fet
  repeat' split
  all_goals first | exact h | exact small_reg h _ _
theorem small_pc {d : Md} (h : d.small) (st : Int) (o : Od) : (d.pcD st o).small := by
  unfold Md.pcD
  split
  · exact small_pl h _ _
  · exact h
end Go.Proofs.Ytfkmibgamkignaa
