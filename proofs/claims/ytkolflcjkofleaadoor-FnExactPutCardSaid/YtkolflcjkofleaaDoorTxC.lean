/- Contracts over this seat's translation, laid together; conditions stand as hypotheses of each. -/
import Derived.Test.YtkolflcjkofleaaDoorTxA
import Derived.Test.YtkolflcjkofleaaDoorTxB
import Derived.Laws.OwnMore
import Derived.Laws.Rows
import Derived.Lib.Builder
import Derived.Deep.RegionHeld

namespace Go.Proofs.YtkolflcjkofleaaDoor
open Go.ChangeShapes Go.WideShapes Go.ChangeAt Go.RowKit
set_option linter.unusedVariables false
set_option maxRecDepth 8000
set_option linter.unusedSimpArgs false

/-- The type of a kind of those of two. -/
def pairT (k : Int) : TypeId := if k = 5 then 134 else if k = 6 then 135 else if k = 7 then 136 else if k = 8 then 137 else if k = 9 then 138 else 139
/-- A term's value in the program, by the values of its parts. -/
def tvC (k n : Int) (s : ByteArray) (vs : List Value) : Value :=
  if k = 1 then .iface 88 (.agg #[.int .i64 n]) else if k = 2 then .iface 117 (.agg #[.string s]) else if k = 3 then .iface 130 (.agg #[])
  else if k = 4 then .iface 104 (.agg vs.toArray) else if k = 11 then .iface 115 (.agg #[.int .i64 n]) else if k = 12 then .iface 118 (.agg #[.string s]) else .iface (pairT k) (.agg vs.toArray)
def tv : Ex → Value
  | ⟨k, n, s, l⟩ => tvC k n s (l.map tv)
theorem tv_num (n : Int) (s : ByteArray) : tv ⟨1, n, s, []⟩ = .iface 88 (.agg #[.int .i64 n]) := by rw [tv]; rfl
theorem tv_sym (n : Int) (s : ByteArray) : tv ⟨2, n, s, []⟩ = .iface 117 (.agg #[.string s]) := by rw [tv]; rfl
theorem tv_here (n : Int) (s : ByteArray) : tv ⟨3, n, s, []⟩ = .iface 130 (.agg #[]) := by rw [tv]; rfl
theorem tv_neg (n : Int) (s : ByteArray) (a : Ex) : tv ⟨4, n, s, [a]⟩ = .iface 104 (.agg #[tv a]) := by rw [tv]; rfl
theorem tv_sect (n : Int) (s : ByteArray) : tv ⟨11, n, s, []⟩ = .iface 115 (.agg #[.int .i64 n]) := by rw [tv]; rfl
theorem tv_glob (n : Int) (s : ByteArray) : tv ⟨12, n, s, []⟩ = .iface 118 (.agg #[.string s]) := by rw [tv]; rfl
theorem tv_two {k : Int} (hk : 5 ≤ k ∧ k ≤ 10) (n : Int) (s : ByteArray) (a b : Ex) : tv ⟨k, n, s, [a, b]⟩ = .iface (pairT k) (.agg #[tv a, tv b]) := by
  rw [tv]
  unfold tvC
  rw [if_neg (by omega), if_neg (by omega), if_neg (by omega), if_neg (by omega), if_neg (by omega), if_neg (by omega)]
  rfl
/-- What leafOf answers. -/
def LeafR (k n : Int) (s : ByteArray) (w : World) (r : Ending) (w' : World) : Prop := ∃ v, r = .returned (.tuple #[v, .bool (hereV k n s 0)]) ∧ (hereV k n s 0 = true → v = tvC k n s []) ∧ Below w.heap.size w w'
def LeafG (k n : Int) (s : ByteArray) : Prop := ∀ (b : Option Addr) (ll cap : Nat) (w : World), TabK w → Calls Tryd.prog 67 #[.agg #[.int .i64 k, .int .i64 n, .string s, .slice b ll cap]] w (LeafR k n s w)
theorem nil_val {r : Ending} {k n : Int} {s : ByteArray} {w w' : World} {v : Value} {q : Bool} (h : hereV k n s 0 = q) (hr : r = .returned (.tuple #[v, .bool q])) (hv : q = true → v = tvC k n s []) (hb : Below w.heap.size w w') : LeafR k n s w r w' := ⟨v, by rw [h]; exact hr, fun e => hv (by rw [← h]; exact e), hb⟩
set_option maxHeartbeats 2000000 in
theorem leaf1_0 (n : Int) (s : ByteArray) : LeafG 1 n ⟨#[]⟩ := by
  intro b ll cap w ht
  obtain ⟨W, hW⟩ : ∃ W, w.alloc (.cells #[.int .i64 1, .int .i64 n, .string ⟨#[]⟩, .slice b ll cap] 26) = W := ⟨_, rfl⟩
  have B0 := hide (below_new w (.cells #[.int .i64 1, .int .i64 n, .string ⟨#[]⟩, .slice b ll cap] 26))
  have hg : W.heap[w.heap.size]? = some (.cells #[.int .i64 1, .int .i64 n, .string ⟨#[]⟩, .slice b ll cap] 26 (0, 0)) := by rw [← hW]; exact Array.getElem?_push_size
  rw [hW] at B0
  have x0 := Lib.cell_of_heap hg 0
  have x1 := Lib.cell_of_heap hg 1
  have x2 := Lib.cell_of_heap hg 2
  have xl : w.heap.size < W.heap.size := (Array.getElem?_eq_some_iff.1 hg).1
  have y0 : ∀ y : Sub W.heap.size W, y.w.cell? ⟨w.heap.size, 0, none⟩ = some (.int .i64 1) := fun y => (y.h.cell (p := ⟨w.heap.size, _, none⟩) xl).trans x0
  have y1 : ∀ y : Sub W.heap.size W, y.w.cell? ⟨w.heap.size, 1, none⟩ = some (.int .i64 n) := fun y => (y.h.cell (p := ⟨w.heap.size, _, none⟩) xl).trans x1
  have y2 : ∀ y : Sub W.heap.size W, y.w.cell? ⟨w.heap.size, 2, none⟩ = some (.string ⟨#[]⟩) := fun y => (y.h.cell (p := ⟨w.heap.size, _, none⟩) xl).trans x2
  have ne := Sub.ne W.heap.size W
  have HZ := hide (Nat.le_refl W.heap.size)
  have TB := hide (fun y : Sub W.heap.size W => (ht.next (unhide B0)).next y.h)
  have HB := hide (fun y : Sub W.heap.size W => (unhide B0).trans (y.h.mono (unhide B0).size))
  clear hg xl ht
  have V := hide (show hereV 1 n ⟨#[]⟩ 0 = inB n 0 65535 by simp [hereV, Ex.here, eqE, eqE1, *])
  have FN := hide (fun r w' (v : Value) => nil_val (r := r) (w := w) (w' := w') (v := v) (unhide V))
  have Q := hide (fun y : Sub W.heap.size W => isWord_any n y.w)
  generalize inB n 0 65535 = q at *
  generalize LeafR 1 n ⟨#[]⟩ w = R at *
  cases q <;> (go_enter Tryd.func67, Tryd.ntmps67; go_wp2_with fail; refine wp_region_sub (⟨W, Below.refl _ _⟩ : Sub W.heap.size W) (by kernel_rfl) (by kernel_rfl) ?_; (repeat (go_big_quiet_step (first | (go_at_call 85; exact Sub.same (unhide Q _))))); refine wpQuiet_nil ?_; intro y; go_wp2; (try go_ret2); exact unhide FN _ _ _ rfl (fun h => by first | rfl | cases h) (unhide HB _))
set_option maxHeartbeats 2000000 in
theorem leaf1_s (n : Int) (s : ByteArray) (h : s ≠ E0) : LeafG 1 n s := by
  intro b ll cap w ht
  obtain ⟨W, hW⟩ : ∃ W, w.alloc (.cells #[.int .i64 1, .int .i64 n, .string s, .slice b ll cap] 26) = W := ⟨_, rfl⟩
  have B0 := hide (below_new w (.cells #[.int .i64 1, .int .i64 n, .string s, .slice b ll cap] 26))
  have hg : W.heap[w.heap.size]? = some (.cells #[.int .i64 1, .int .i64 n, .string s, .slice b ll cap] 26 (0, 0)) := by rw [← hW]; exact Array.getElem?_push_size
  rw [hW] at B0
  have x0 := Lib.cell_of_heap hg 0
  have x1 := Lib.cell_of_heap hg 1
  have x2 := Lib.cell_of_heap hg 2
  have xl : w.heap.size < W.heap.size := (Array.getElem?_eq_some_iff.1 hg).1
  have y0 : ∀ y : Sub W.heap.size W, y.w.cell? ⟨w.heap.size, 0, none⟩ = some (.int .i64 1) := fun y => (y.h.cell (p := ⟨w.heap.size, _, none⟩) xl).trans x0
  have y1 : ∀ y : Sub W.heap.size W, y.w.cell? ⟨w.heap.size, 1, none⟩ = some (.int .i64 n) := fun y => (y.h.cell (p := ⟨w.heap.size, _, none⟩) xl).trans x1
  have y2 : ∀ y : Sub W.heap.size W, y.w.cell? ⟨w.heap.size, 2, none⟩ = some (.string s) := fun y => (y.h.cell (p := ⟨w.heap.size, _, none⟩) xl).trans x2
  have ne := Sub.ne W.heap.size W
  have HZ := hide (Nat.le_refl W.heap.size)
  have TB := hide (fun y : Sub W.heap.size W => (ht.next (unhide B0)).next y.h)
  have HB := hide (fun y : Sub W.heap.size W => (unhide B0).trans (y.h.mono (unhide B0).size))
  clear hg xl ht
  obtain ⟨h1, h2⟩ := emp_E s h
  have V := hide (show hereV 1 n s 0 = false by simp [hereV, Ex.here, eqE, eqE1, *])
  have FN := hide (fun r w' (v : Value) => nil_val (r := r) (w := w) (w' := w') (v := v) (unhide V))
  have Q := hide (fun y : Sub W.heap.size W => isWord_any n y.w)
  generalize inB n 0 65535 = q at *
  generalize LeafR 1 n s w = R at *
  cases q <;> (go_enter Tryd.func67, Tryd.ntmps67; go_wp2_with fail; refine wp_region_sub (⟨W, Below.refl _ _⟩ : Sub W.heap.size W) (by kernel_rfl) (by kernel_rfl) ?_; (repeat (go_big_quiet_step (first | (go_at_call 85; exact Sub.same (unhide Q _))))); refine wpQuiet_nil ?_; intro y; go_wp2; (try go_ret2); exact unhide FN _ _ _ rfl (fun h => by first | rfl | cases h) (unhide HB _))
set_option maxHeartbeats 2000000 in
theorem leaf2_0 (n : Int) (s : ByteArray) (hs : s.size ≤ 1099511627776) : LeafG 2 0 s := by
  intro b ll cap w ht
  obtain ⟨W, hW⟩ : ∃ W, w.alloc (.cells #[.int .i64 2, .int .i64 0, .string s, .slice b ll cap] 26) = W := ⟨_, rfl⟩
  have B0 := hide (below_new w (.cells #[.int .i64 2, .int .i64 0, .string s, .slice b ll cap] 26))
  have hg : W.heap[w.heap.size]? = some (.cells #[.int .i64 2, .int .i64 0, .string s, .slice b ll cap] 26 (0, 0)) := by rw [← hW]; exact Array.getElem?_push_size
  rw [hW] at B0
  have x0 := Lib.cell_of_heap hg 0
  have x1 := Lib.cell_of_heap hg 1
  have x2 := Lib.cell_of_heap hg 2
  have xl : w.heap.size < W.heap.size := (Array.getElem?_eq_some_iff.1 hg).1
  have y0 : ∀ y : Sub W.heap.size W, y.w.cell? ⟨w.heap.size, 0, none⟩ = some (.int .i64 2) := fun y => (y.h.cell (p := ⟨w.heap.size, _, none⟩) xl).trans x0
  have y1 : ∀ y : Sub W.heap.size W, y.w.cell? ⟨w.heap.size, 1, none⟩ = some (.int .i64 0) := fun y => (y.h.cell (p := ⟨w.heap.size, _, none⟩) xl).trans x1
  have y2 : ∀ y : Sub W.heap.size W, y.w.cell? ⟨w.heap.size, 2, none⟩ = some (.string s) := fun y => (y.h.cell (p := ⟨w.heap.size, _, none⟩) xl).trans x2
  have ne := Sub.ne W.heap.size W
  have HZ := hide (Nat.le_refl W.heap.size)
  have TB := hide (fun y : Sub W.heap.size W => (ht.next (unhide B0)).next y.h)
  have HB := hide (fun y : Sub W.heap.size W => (unhide B0).trans (y.h.mono (unhide B0).size))
  clear hg xl ht
  have V := hide (show hereV 2 0 s 0 = nameB s by simp [hereV, Ex.here, eqE, eqE1, *])
  have FN := hide (fun r w' (v : Value) => nil_val (r := r) (w := w) (w' := w') (v := v) (unhide V))
  have Q := hide (fun y : Sub W.heap.size W => nameI_any s y.w hs (unhide TB y))
  generalize nameB s = q at *
  generalize LeafR 2 0 s w = R at *
  cases q <;> (go_enter Tryd.func67, Tryd.ntmps67; go_wp2_with fail; refine wp_region_sub (⟨W, Below.refl _ _⟩ : Sub W.heap.size W) (by kernel_rfl) (by kernel_rfl) ?_; (repeat (go_big_quiet_step (first | (go_at_call 86; exact Sub.same (unhide Q _))))); refine wpQuiet_nil ?_; intro y; go_wp2; (try go_ret2); exact unhide FN _ _ _ rfl (fun h => by first | rfl | cases h) (unhide HB _))
set_option maxHeartbeats 2000000 in
theorem leaf2_n (n : Int) (s : ByteArray) (h : n ≠ 0) (hs : s.size ≤ 1099511627776) : LeafG 2 n s := by
  intro b ll cap w ht
  obtain ⟨W, hW⟩ : ∃ W, w.alloc (.cells #[.int .i64 2, .int .i64 n, .string s, .slice b ll cap] 26) = W := ⟨_, rfl⟩
  have B0 := hide (below_new w (.cells #[.int .i64 2, .int .i64 n, .string s, .slice b ll cap] 26))
  have hg : W.heap[w.heap.size]? = some (.cells #[.int .i64 2, .int .i64 n, .string s, .slice b ll cap] 26 (0, 0)) := by rw [← hW]; exact Array.getElem?_push_size
  rw [hW] at B0
  have x0 := Lib.cell_of_heap hg 0
  have x1 := Lib.cell_of_heap hg 1
  have x2 := Lib.cell_of_heap hg 2
  have xl : w.heap.size < W.heap.size := (Array.getElem?_eq_some_iff.1 hg).1
  have y0 : ∀ y : Sub W.heap.size W, y.w.cell? ⟨w.heap.size, 0, none⟩ = some (.int .i64 2) := fun y => (y.h.cell (p := ⟨w.heap.size, _, none⟩) xl).trans x0
  have y1 : ∀ y : Sub W.heap.size W, y.w.cell? ⟨w.heap.size, 1, none⟩ = some (.int .i64 n) := fun y => (y.h.cell (p := ⟨w.heap.size, _, none⟩) xl).trans x1
  have y2 : ∀ y : Sub W.heap.size W, y.w.cell? ⟨w.heap.size, 2, none⟩ = some (.string s) := fun y => (y.h.cell (p := ⟨w.heap.size, _, none⟩) xl).trans x2
  have ne := Sub.ne W.heap.size W
  have HZ := hide (Nat.le_refl W.heap.size)
  have TB := hide (fun y : Sub W.heap.size W => (ht.next (unhide B0)).next y.h)
  have HB := hide (fun y : Sub W.heap.size W => (unhide B0).trans (y.h.mono (unhide B0).size))
  clear hg xl ht
  have hn : (n == 0) = false := beq_eq_false_iff_ne.2 h
  have V := hide (show hereV 2 n s 0 = false by simp [hereV, Ex.here, eqE, eqE1, *])
  have FN := hide (fun r w' (v : Value) => nil_val (r := r) (w := w) (w' := w') (v := v) (unhide V))
  have Q := hide (fun y : Sub W.heap.size W => nameI_any s y.w hs (unhide TB y))
  generalize nameB s = q at *
  generalize LeafR 2 n s w = R at *
  cases q <;> (go_enter Tryd.func67, Tryd.ntmps67; go_wp2_with fail; refine wp_region_sub (⟨W, Below.refl _ _⟩ : Sub W.heap.size W) (by kernel_rfl) (by kernel_rfl) ?_; (repeat (go_big_quiet_step (first | (go_at_call 86; exact Sub.same (unhide Q _))))); refine wpQuiet_nil ?_; intro y; go_wp2; (try go_ret2); exact unhide FN _ _ _ rfl (fun h => by first | rfl | cases h) (unhide HB _))
set_option maxHeartbeats 2000000 in
theorem leaf12_0 (n : Int) (s : ByteArray) (hs : s.size ≤ 1099511627776) : LeafG 12 0 s := by
  intro b ll cap w ht
  obtain ⟨W, hW⟩ : ∃ W, w.alloc (.cells #[.int .i64 12, .int .i64 0, .string s, .slice b ll cap] 26) = W := ⟨_, rfl⟩
  have B0 := hide (below_new w (.cells #[.int .i64 12, .int .i64 0, .string s, .slice b ll cap] 26))
  have hg : W.heap[w.heap.size]? = some (.cells #[.int .i64 12, .int .i64 0, .string s, .slice b ll cap] 26 (0, 0)) := by rw [← hW]; exact Array.getElem?_push_size
  rw [hW] at B0
  have x0 := Lib.cell_of_heap hg 0
  have x1 := Lib.cell_of_heap hg 1
  have x2 := Lib.cell_of_heap hg 2
  have xl : w.heap.size < W.heap.size := (Array.getElem?_eq_some_iff.1 hg).1
  have y0 : ∀ y : Sub W.heap.size W, y.w.cell? ⟨w.heap.size, 0, none⟩ = some (.int .i64 12) := fun y => (y.h.cell (p := ⟨w.heap.size, _, none⟩) xl).trans x0
  have y1 : ∀ y : Sub W.heap.size W, y.w.cell? ⟨w.heap.size, 1, none⟩ = some (.int .i64 0) := fun y => (y.h.cell (p := ⟨w.heap.size, _, none⟩) xl).trans x1
  have y2 : ∀ y : Sub W.heap.size W, y.w.cell? ⟨w.heap.size, 2, none⟩ = some (.string s) := fun y => (y.h.cell (p := ⟨w.heap.size, _, none⟩) xl).trans x2
  have ne := Sub.ne W.heap.size W
  have HZ := hide (Nat.le_refl W.heap.size)
  have TB := hide (fun y : Sub W.heap.size W => (ht.next (unhide B0)).next y.h)
  have HB := hide (fun y : Sub W.heap.size W => (unhide B0).trans (y.h.mono (unhide B0).size))
  clear hg xl ht
  have V := hide (show hereV 12 0 s 0 = nameB s by simp [hereV, Ex.here, eqE, eqE1, *])
  have FN := hide (fun r w' (v : Value) => nil_val (r := r) (w := w) (w' := w') (v := v) (unhide V))
  have Q := hide (fun y : Sub W.heap.size W => nameI_any s y.w hs (unhide TB y))
  generalize nameB s = q at *
  generalize LeafR 12 0 s w = R at *
  cases q <;> (go_enter Tryd.func67, Tryd.ntmps67; go_wp2_with fail; refine wp_region_sub (⟨W, Below.refl _ _⟩ : Sub W.heap.size W) (by kernel_rfl) (by kernel_rfl) ?_; (repeat (go_big_quiet_step (first | (go_at_call 86; exact Sub.same (unhide Q _))))); refine wpQuiet_nil ?_; intro y; go_wp2; (try go_ret2); exact unhide FN _ _ _ rfl (fun h => by first | rfl | cases h) (unhide HB _))
set_option maxHeartbeats 2000000 in
theorem leaf12_n (n : Int) (s : ByteArray) (h : n ≠ 0) (hs : s.size ≤ 1099511627776) : LeafG 12 n s := by
  intro b ll cap w ht
  obtain ⟨W, hW⟩ : ∃ W, w.alloc (.cells #[.int .i64 12, .int .i64 n, .string s, .slice b ll cap] 26) = W := ⟨_, rfl⟩
  have B0 := hide (below_new w (.cells #[.int .i64 12, .int .i64 n, .string s, .slice b ll cap] 26))
  have hg : W.heap[w.heap.size]? = some (.cells #[.int .i64 12, .int .i64 n, .string s, .slice b ll cap] 26 (0, 0)) := by rw [← hW]; exact Array.getElem?_push_size
  rw [hW] at B0
  have x0 := Lib.cell_of_heap hg 0
  have x1 := Lib.cell_of_heap hg 1
  have x2 := Lib.cell_of_heap hg 2
  have xl : w.heap.size < W.heap.size := (Array.getElem?_eq_some_iff.1 hg).1
  have y0 : ∀ y : Sub W.heap.size W, y.w.cell? ⟨w.heap.size, 0, none⟩ = some (.int .i64 12) := fun y => (y.h.cell (p := ⟨w.heap.size, _, none⟩) xl).trans x0
  have y1 : ∀ y : Sub W.heap.size W, y.w.cell? ⟨w.heap.size, 1, none⟩ = some (.int .i64 n) := fun y => (y.h.cell (p := ⟨w.heap.size, _, none⟩) xl).trans x1
  have y2 : ∀ y : Sub W.heap.size W, y.w.cell? ⟨w.heap.size, 2, none⟩ = some (.string s) := fun y => (y.h.cell (p := ⟨w.heap.size, _, none⟩) xl).trans x2
  have ne := Sub.ne W.heap.size W
  have HZ := hide (Nat.le_refl W.heap.size)
  have TB := hide (fun y : Sub W.heap.size W => (ht.next (unhide B0)).next y.h)
  have HB := hide (fun y : Sub W.heap.size W => (unhide B0).trans (y.h.mono (unhide B0).size))
  clear hg xl ht
  have hn : (n == 0) = false := beq_eq_false_iff_ne.2 h
  have V := hide (show hereV 12 n s 0 = false by simp [hereV, Ex.here, eqE, eqE1, *])
  have FN := hide (fun r w' (v : Value) => nil_val (r := r) (w := w) (w' := w') (v := v) (unhide V))
  have Q := hide (fun y : Sub W.heap.size W => nameI_any s y.w hs (unhide TB y))
  generalize nameB s = q at *
  generalize LeafR 12 n s w = R at *
  cases q <;> (go_enter Tryd.func67, Tryd.ntmps67; go_wp2_with fail; refine wp_region_sub (⟨W, Below.refl _ _⟩ : Sub W.heap.size W) (by kernel_rfl) (by kernel_rfl) ?_; (repeat (go_big_quiet_step (first | (go_at_call 86; exact Sub.same (unhide Q _))))); refine wpQuiet_nil ?_; intro y; go_wp2; (try go_ret2); exact unhide FN _ _ _ rfl (fun h => by first | rfl | cases h) (unhide HB _))
set_option maxHeartbeats 2000000 in
theorem leaf3_0 (n : Int) (s : ByteArray) : LeafG 3 0 ⟨#[]⟩ := by
  intro b ll cap w ht
  obtain ⟨W, hW⟩ : ∃ W, w.alloc (.cells #[.int .i64 3, .int .i64 0, .string ⟨#[]⟩, .slice b ll cap] 26) = W := ⟨_, rfl⟩
  have B0 := hide (below_new w (.cells #[.int .i64 3, .int .i64 0, .string ⟨#[]⟩, .slice b ll cap] 26))
  have hg : W.heap[w.heap.size]? = some (.cells #[.int .i64 3, .int .i64 0, .string ⟨#[]⟩, .slice b ll cap] 26 (0, 0)) := by rw [← hW]; exact Array.getElem?_push_size
  rw [hW] at B0
  have x0 := Lib.cell_of_heap hg 0
  have x1 := Lib.cell_of_heap hg 1
  have x2 := Lib.cell_of_heap hg 2
  have xl : w.heap.size < W.heap.size := (Array.getElem?_eq_some_iff.1 hg).1
  have y0 : ∀ y : Sub W.heap.size W, y.w.cell? ⟨w.heap.size, 0, none⟩ = some (.int .i64 3) := fun y => (y.h.cell (p := ⟨w.heap.size, _, none⟩) xl).trans x0
  have y1 : ∀ y : Sub W.heap.size W, y.w.cell? ⟨w.heap.size, 1, none⟩ = some (.int .i64 0) := fun y => (y.h.cell (p := ⟨w.heap.size, _, none⟩) xl).trans x1
  have y2 : ∀ y : Sub W.heap.size W, y.w.cell? ⟨w.heap.size, 2, none⟩ = some (.string ⟨#[]⟩) := fun y => (y.h.cell (p := ⟨w.heap.size, _, none⟩) xl).trans x2
  have ne := Sub.ne W.heap.size W
  have HZ := hide (Nat.le_refl W.heap.size)
  have TB := hide (fun y : Sub W.heap.size W => (ht.next (unhide B0)).next y.h)
  have HB := hide (fun y : Sub W.heap.size W => (unhide B0).trans (y.h.mono (unhide B0).size))
  clear hg xl ht
  have V := hide (show hereV 3 0 ⟨#[]⟩ 0 = true by simp [hereV, Ex.here, eqE, eqE1, *])
  have FN := hide (fun r w' (v : Value) => nil_val (r := r) (w := w) (w' := w') (v := v) (unhide V))
  generalize LeafR 3 0 ⟨#[]⟩ w = R at *
  (go_enter Tryd.func67, Tryd.ntmps67; go_wp2_with fail; refine wp_region_sub (⟨W, Below.refl _ _⟩ : Sub W.heap.size W) (by kernel_rfl) (by kernel_rfl) ?_; (repeat (go_big_quiet_step (first | fail))); refine wpQuiet_nil ?_; intro y; go_wp2; (try go_ret2); exact unhide FN _ _ _ rfl (fun h => by first | rfl | cases h) (unhide HB _))
set_option maxHeartbeats 2000000 in
theorem leaf3_n (n : Int) (s : ByteArray) (h : n ≠ 0) : LeafG 3 n s := by
  intro b ll cap w ht
  obtain ⟨W, hW⟩ : ∃ W, w.alloc (.cells #[.int .i64 3, .int .i64 n, .string s, .slice b ll cap] 26) = W := ⟨_, rfl⟩
  have B0 := hide (below_new w (.cells #[.int .i64 3, .int .i64 n, .string s, .slice b ll cap] 26))
  have hg : W.heap[w.heap.size]? = some (.cells #[.int .i64 3, .int .i64 n, .string s, .slice b ll cap] 26 (0, 0)) := by rw [← hW]; exact Array.getElem?_push_size
  rw [hW] at B0
  have x0 := Lib.cell_of_heap hg 0
  have x1 := Lib.cell_of_heap hg 1
  have x2 := Lib.cell_of_heap hg 2
  have xl : w.heap.size < W.heap.size := (Array.getElem?_eq_some_iff.1 hg).1
  have y0 : ∀ y : Sub W.heap.size W, y.w.cell? ⟨w.heap.size, 0, none⟩ = some (.int .i64 3) := fun y => (y.h.cell (p := ⟨w.heap.size, _, none⟩) xl).trans x0
  have y1 : ∀ y : Sub W.heap.size W, y.w.cell? ⟨w.heap.size, 1, none⟩ = some (.int .i64 n) := fun y => (y.h.cell (p := ⟨w.heap.size, _, none⟩) xl).trans x1
  have y2 : ∀ y : Sub W.heap.size W, y.w.cell? ⟨w.heap.size, 2, none⟩ = some (.string s) := fun y => (y.h.cell (p := ⟨w.heap.size, _, none⟩) xl).trans x2
  have ne := Sub.ne W.heap.size W
  have HZ := hide (Nat.le_refl W.heap.size)
  have TB := hide (fun y : Sub W.heap.size W => (ht.next (unhide B0)).next y.h)
  have HB := hide (fun y : Sub W.heap.size W => (unhide B0).trans (y.h.mono (unhide B0).size))
  clear hg xl ht
  have hn : (n == 0) = false := beq_eq_false_iff_ne.2 h
  have V := hide (show hereV 3 n s 0 = false by simp [hereV, Ex.here, eqE, eqE1, *])
  have FN := hide (fun r w' (v : Value) => nil_val (r := r) (w := w) (w' := w') (v := v) (unhide V))
  generalize LeafR 3 n s w = R at *
  (go_enter Tryd.func67, Tryd.ntmps67; go_wp2_with fail; refine wp_region_sub (⟨W, Below.refl _ _⟩ : Sub W.heap.size W) (by kernel_rfl) (by kernel_rfl) ?_; (repeat (go_big_quiet_step (first | fail))); refine wpQuiet_nil ?_; intro y; go_wp2; (try go_ret2); exact unhide FN _ _ _ rfl (fun h => by first | rfl | cases h) (unhide HB _))
set_option maxHeartbeats 2000000 in
theorem leaf3_s (n : Int) (s : ByteArray) (h : s ≠ E0) : LeafG 3 0 s := by
  intro b ll cap w ht
  obtain ⟨W, hW⟩ : ∃ W, w.alloc (.cells #[.int .i64 3, .int .i64 0, .string s, .slice b ll cap] 26) = W := ⟨_, rfl⟩
  have B0 := hide (below_new w (.cells #[.int .i64 3, .int .i64 0, .string s, .slice b ll cap] 26))
  have hg : W.heap[w.heap.size]? = some (.cells #[.int .i64 3, .int .i64 0, .string s, .slice b ll cap] 26 (0, 0)) := by rw [← hW]; exact Array.getElem?_push_size
  rw [hW] at B0
  have x0 := Lib.cell_of_heap hg 0
  have x1 := Lib.cell_of_heap hg 1
  have x2 := Lib.cell_of_heap hg 2
  have xl : w.heap.size < W.heap.size := (Array.getElem?_eq_some_iff.1 hg).1
  have y0 : ∀ y : Sub W.heap.size W, y.w.cell? ⟨w.heap.size, 0, none⟩ = some (.int .i64 3) := fun y => (y.h.cell (p := ⟨w.heap.size, _, none⟩) xl).trans x0
  have y1 : ∀ y : Sub W.heap.size W, y.w.cell? ⟨w.heap.size, 1, none⟩ = some (.int .i64 0) := fun y => (y.h.cell (p := ⟨w.heap.size, _, none⟩) xl).trans x1
  have y2 : ∀ y : Sub W.heap.size W, y.w.cell? ⟨w.heap.size, 2, none⟩ = some (.string s) := fun y => (y.h.cell (p := ⟨w.heap.size, _, none⟩) xl).trans x2
  have ne := Sub.ne W.heap.size W
  have HZ := hide (Nat.le_refl W.heap.size)
  have TB := hide (fun y : Sub W.heap.size W => (ht.next (unhide B0)).next y.h)
  have HB := hide (fun y : Sub W.heap.size W => (unhide B0).trans (y.h.mono (unhide B0).size))
  clear hg xl ht
  obtain ⟨h1, h2⟩ := emp_E s h
  have V := hide (show hereV 3 0 s 0 = false by simp [hereV, Ex.here, eqE, eqE1, *])
  have FN := hide (fun r w' (v : Value) => nil_val (r := r) (w := w) (w' := w') (v := v) (unhide V))
  generalize LeafR 3 0 s w = R at *
  (go_enter Tryd.func67, Tryd.ntmps67; go_wp2_with fail; refine wp_region_sub (⟨W, Below.refl _ _⟩ : Sub W.heap.size W) (by kernel_rfl) (by kernel_rfl) ?_; (repeat (go_big_quiet_step (first | fail))); refine wpQuiet_nil ?_; intro y; go_wp2; (try go_ret2); exact unhide FN _ _ _ rfl (fun h => by first | rfl | cases h) (unhide HB _))
set_option maxHeartbeats 2000000 in
theorem leaf11_s (n : Int) (s : ByteArray) (h : s ≠ E0) : LeafG 11 n s := by
  intro b ll cap w ht
  obtain ⟨W, hW⟩ : ∃ W, w.alloc (.cells #[.int .i64 11, .int .i64 n, .string s, .slice b ll cap] 26) = W := ⟨_, rfl⟩
  have B0 := hide (below_new w (.cells #[.int .i64 11, .int .i64 n, .string s, .slice b ll cap] 26))
  have hg : W.heap[w.heap.size]? = some (.cells #[.int .i64 11, .int .i64 n, .string s, .slice b ll cap] 26 (0, 0)) := by rw [← hW]; exact Array.getElem?_push_size
  rw [hW] at B0
  have x0 := Lib.cell_of_heap hg 0
  have x1 := Lib.cell_of_heap hg 1
  have x2 := Lib.cell_of_heap hg 2
  have xl : w.heap.size < W.heap.size := (Array.getElem?_eq_some_iff.1 hg).1
  have y0 : ∀ y : Sub W.heap.size W, y.w.cell? ⟨w.heap.size, 0, none⟩ = some (.int .i64 11) := fun y => (y.h.cell (p := ⟨w.heap.size, _, none⟩) xl).trans x0
  have y1 : ∀ y : Sub W.heap.size W, y.w.cell? ⟨w.heap.size, 1, none⟩ = some (.int .i64 n) := fun y => (y.h.cell (p := ⟨w.heap.size, _, none⟩) xl).trans x1
  have y2 : ∀ y : Sub W.heap.size W, y.w.cell? ⟨w.heap.size, 2, none⟩ = some (.string s) := fun y => (y.h.cell (p := ⟨w.heap.size, _, none⟩) xl).trans x2
  have ne := Sub.ne W.heap.size W
  have HZ := hide (Nat.le_refl W.heap.size)
  have TB := hide (fun y : Sub W.heap.size W => (ht.next (unhide B0)).next y.h)
  have HB := hide (fun y : Sub W.heap.size W => (unhide B0).trans (y.h.mono (unhide B0).size))
  clear hg xl ht
  obtain ⟨h1, h2⟩ := emp_E s h
  have V := hide (show hereV 11 n s 0 = false by simp [hereV, Ex.here, eqE, eqE1, *])
  have FN := hide (fun r w' (v : Value) => nil_val (r := r) (w := w) (w' := w') (v := v) (unhide V))
  generalize LeafR 11 n s w = R at *
  by_cases g1 : 0 ≤ n
  · by_cases g2 : n ≤ 9
    · (go_enter Tryd.func67, Tryd.ntmps67; go_wp2_with fail; refine wp_region_sub (⟨W, Below.refl _ _⟩ : Sub W.heap.size W) (by kernel_rfl) (by kernel_rfl) ?_; (repeat (go_big_quiet_step (first | fail))); refine wpQuiet_nil ?_; intro y; go_wp2; (try go_ret2); exact unhide FN _ _ _ rfl (fun h => by first | rfl | cases h) (unhide HB _))
    · have g4 : decide (n ≤ 9) = false := decide_eq_false g2
      (go_enter Tryd.func67, Tryd.ntmps67; go_wp2_with fail; refine wp_region_sub (⟨W, Below.refl _ _⟩ : Sub W.heap.size W) (by kernel_rfl) (by kernel_rfl) ?_; (repeat (go_big_quiet_step (first | fail))); refine wpQuiet_nil ?_; intro y; go_wp2; (try go_ret2); exact unhide FN _ _ _ rfl (fun h => by first | rfl | cases h) (unhide HB _))
  · have g3 : decide (0 ≤ n) = false := decide_eq_false g1
    (go_enter Tryd.func67, Tryd.ntmps67; go_wp2_with fail; refine wp_region_sub (⟨W, Below.refl _ _⟩ : Sub W.heap.size W) (by kernel_rfl) (by kernel_rfl) ?_; (repeat (go_big_quiet_step (first | fail))); refine wpQuiet_nil ?_; intro y; go_wp2; (try go_ret2); exact unhide FN _ _ _ rfl (fun h => by first | rfl | cases h) (unhide HB _))
set_option maxHeartbeats 2000000 in
theorem leaf11_0 (n : Int) (s : ByteArray) : LeafG 11 n ⟨#[]⟩ := by
  intro b ll cap w ht
  obtain ⟨W, hW⟩ : ∃ W, w.alloc (.cells #[.int .i64 11, .int .i64 n, .string ⟨#[]⟩, .slice b ll cap] 26) = W := ⟨_, rfl⟩
  have B0 := hide (below_new w (.cells #[.int .i64 11, .int .i64 n, .string ⟨#[]⟩, .slice b ll cap] 26))
  have hg : W.heap[w.heap.size]? = some (.cells #[.int .i64 11, .int .i64 n, .string ⟨#[]⟩, .slice b ll cap] 26 (0, 0)) := by rw [← hW]; exact Array.getElem?_push_size
  rw [hW] at B0
  have x0 := Lib.cell_of_heap hg 0
  have x1 := Lib.cell_of_heap hg 1
  have x2 := Lib.cell_of_heap hg 2
  have xl : w.heap.size < W.heap.size := (Array.getElem?_eq_some_iff.1 hg).1
  have y0 : ∀ y : Sub W.heap.size W, y.w.cell? ⟨w.heap.size, 0, none⟩ = some (.int .i64 11) := fun y => (y.h.cell (p := ⟨w.heap.size, _, none⟩) xl).trans x0
  have y1 : ∀ y : Sub W.heap.size W, y.w.cell? ⟨w.heap.size, 1, none⟩ = some (.int .i64 n) := fun y => (y.h.cell (p := ⟨w.heap.size, _, none⟩) xl).trans x1
  have y2 : ∀ y : Sub W.heap.size W, y.w.cell? ⟨w.heap.size, 2, none⟩ = some (.string ⟨#[]⟩) := fun y => (y.h.cell (p := ⟨w.heap.size, _, none⟩) xl).trans x2
  have ne := Sub.ne W.heap.size W
  have HZ := hide (Nat.le_refl W.heap.size)
  have TB := hide (fun y : Sub W.heap.size W => (ht.next (unhide B0)).next y.h)
  have HB := hide (fun y : Sub W.heap.size W => (unhide B0).trans (y.h.mono (unhide B0).size))
  clear hg xl ht
  by_cases g1 : 0 ≤ n
  · by_cases g2 : n ≤ 9
    · have e : inB n 0 9 = true := by unfold inB; simp <;> omega
      have V := hide (show hereV 11 n ⟨#[]⟩ 0 = true by simp [hereV, Ex.here, eqE, eqE1, e])
      have FN := hide (fun r w' (v : Value) => nil_val (r := r) (w := w) (w' := w') (v := v) (unhide V))
      generalize LeafR 11 n ⟨#[]⟩ w = R at *
      clear e
      (go_enter Tryd.func67, Tryd.ntmps67; go_wp2_with fail; refine wp_region_sub (⟨W, Below.refl _ _⟩ : Sub W.heap.size W) (by kernel_rfl) (by kernel_rfl) ?_; (repeat (go_big_quiet_step (first | fail))); refine wpQuiet_nil ?_; intro y; go_wp2; (try go_ret2); exact unhide FN _ _ _ rfl (fun h => by first | rfl | cases h) (unhide HB _))
    · have g4 : decide (n ≤ 9) = false := decide_eq_false g2
      have e : inB n 0 9 = false := by unfold inB; simp <;> omega
      have V := hide (show hereV 11 n ⟨#[]⟩ 0 = false by simp [hereV, Ex.here, eqE, eqE1, e])
      have FN := hide (fun r w' (v : Value) => nil_val (r := r) (w := w) (w' := w') (v := v) (unhide V))
      generalize LeafR 11 n ⟨#[]⟩ w = R at *
      clear e
      (go_enter Tryd.func67, Tryd.ntmps67; go_wp2_with fail; refine wp_region_sub (⟨W, Below.refl _ _⟩ : Sub W.heap.size W) (by kernel_rfl) (by kernel_rfl) ?_; (repeat (go_big_quiet_step (first | fail))); refine wpQuiet_nil ?_; intro y; go_wp2; (try go_ret2); exact unhide FN _ _ _ rfl (fun h => by first | rfl | cases h) (unhide HB _))
  · have g3 : decide (0 ≤ n) = false := decide_eq_false g1
    have e : inB n 0 9 = false := by unfold inB; simp <;> omega
    have V := hide (show hereV 11 n ⟨#[]⟩ 0 = false by simp [hereV, Ex.here, eqE, eqE1, e])
    have FN := hide (fun r w' (v : Value) => nil_val (r := r) (w := w) (w' := w') (v := v) (unhide V))
    generalize LeafR 11 n ⟨#[]⟩ w = R at *
    clear e
    (go_enter Tryd.func67, Tryd.ntmps67; go_wp2_with fail; refine wp_region_sub (⟨W, Below.refl _ _⟩ : Sub W.heap.size W) (by kernel_rfl) (by kernel_rfl) ?_; (repeat (go_big_quiet_step (first | fail))); refine wpQuiet_nil ?_; intro y; go_wp2; (try go_ret2); exact unhide FN _ _ _ rfl (fun h => by first | rfl | cases h) (unhide HB _))
set_option maxHeartbeats 2000000 in
theorem leaf_no (k n : Int) (s : ByteArray) (h1 : k ≠ 1) (h2 : k ≠ 2) (h3 : k ≠ 3) (h11 : k ≠ 11) (h12 : k ≠ 12) : LeafG k n s := by
  intro b ll cap w ht
  obtain ⟨W, hW⟩ : ∃ W, w.alloc (.cells #[.int .i64 k, .int .i64 n, .string s, .slice b ll cap] 26) = W := ⟨_, rfl⟩
  have B0 := hide (below_new w (.cells #[.int .i64 k, .int .i64 n, .string s, .slice b ll cap] 26))
  have hg : W.heap[w.heap.size]? = some (.cells #[.int .i64 k, .int .i64 n, .string s, .slice b ll cap] 26 (0, 0)) := by rw [← hW]; exact Array.getElem?_push_size
  rw [hW] at B0
  have x0 := Lib.cell_of_heap hg 0
  have x1 := Lib.cell_of_heap hg 1
  have x2 := Lib.cell_of_heap hg 2
  have xl : w.heap.size < W.heap.size := (Array.getElem?_eq_some_iff.1 hg).1
  have y0 : ∀ y : Sub W.heap.size W, y.w.cell? ⟨w.heap.size, 0, none⟩ = some (.int .i64 k) := fun y => (y.h.cell (p := ⟨w.heap.size, _, none⟩) xl).trans x0
  have y1 : ∀ y : Sub W.heap.size W, y.w.cell? ⟨w.heap.size, 1, none⟩ = some (.int .i64 n) := fun y => (y.h.cell (p := ⟨w.heap.size, _, none⟩) xl).trans x1
  have y2 : ∀ y : Sub W.heap.size W, y.w.cell? ⟨w.heap.size, 2, none⟩ = some (.string s) := fun y => (y.h.cell (p := ⟨w.heap.size, _, none⟩) xl).trans x2
  have ne := Sub.ne W.heap.size W
  have HZ := hide (Nat.le_refl W.heap.size)
  have TB := hide (fun y : Sub W.heap.size W => (ht.next (unhide B0)).next y.h)
  have HB := hide (fun y : Sub W.heap.size W => (unhide B0).trans (y.h.mono (unhide B0).size))
  clear hg xl ht
  have g1 : (k == 1) = false := beq_eq_false_iff_ne.2 h1
  have g2 : (k == 2) = false := beq_eq_false_iff_ne.2 h2
  have g3 : (k == 3) = false := beq_eq_false_iff_ne.2 h3
  have g11 : (k == 11) = false := beq_eq_false_iff_ne.2 h11
  have g12 : (k == 12) = false := beq_eq_false_iff_ne.2 h12
  have V := hide (show hereV k n s 0 = false by unfold hereV Ex.here; simp only [List.length_replicate]; split; rfl; rw [if_neg (by omega)]; (repeat' (first | rfl | split)); all_goals first | rfl | omega)
  have FN := hide (fun r w' (v : Value) => nil_val (r := r) (w := w) (w' := w') (v := v) (unhide V))
  generalize LeafR k n s w = R at *
  (go_enter Tryd.func67, Tryd.ntmps67; go_wp2; (try go_ret2); exact unhide FN _ _ _ rfl (fun h => by cases h) (unhide B0))
theorem leaf_any (k n : Int) (s : ByteArray) (b : Option Addr) (ll cap : Nat) (w : World) (hs : s.size ≤ 1099511627776) (ht : TabK w) : Calls Tryd.prog 67 #[.agg #[.int .i64 k, .int .i64 n, .string s, .slice b ll cap]] w (LeafR k n s w) := by
  revert b ll cap w
  show ∀ b ll cap w, TabK w → _
  by_cases c1 : k = 1
  · subst c1
    by_cases h : s = E0
    · subst h; exact leaf1_0 n E0
    · exact leaf1_s n s h
  by_cases c2 : k = 2
  · subst c2
    by_cases h : n = 0
    · subst h; exact leaf2_0 0 s hs
    · exact leaf2_n n s h hs
  by_cases c12 : k = 12
  · subst c12
    by_cases h : n = 0
    · subst h; exact leaf12_0 0 s hs
    · exact leaf12_n n s h hs
  by_cases c3 : k = 3
  · subst c3
    by_cases h : n = 0
    · subst h
      by_cases h : s = E0
      · subst h; exact leaf3_0 0 E0
      · exact leaf3_s 0 s h
    · exact leaf3_n n s h
  by_cases c11 : k = 11
  · subst c11
    by_cases h : s = E0
    · subst h; exact leaf11_0 n E0
    · exact leaf11_s n s h
  exact leaf_no k n s c1 c2 c3 c11 c12
end Go.Proofs.YtkolflcjkofleaaDoor

namespace Go.Proofs.YtkolflcjkofleaaDoor
open Go.ChangeShapes Go.WideShapes Go.ChangeAt Go.RowKit
set_option linter.unusedVariables false
set_option maxRecDepth 8000

/-- What is left of so much. -/
def lessX (left : Int) (z : Nat) : Int := if left - (z : Int) < 0 then -1 else left - (z : Int)
def SzP (e : Ex) : Prop := ∀ (b : Option Addr) (cap : Nat) (left : Int) (w : World), RdX w 0 e b → Fit e → 0 ≤ left → left ≤ 1048576 → Calls Tryd.prog 26 #[.agg (e.cs b cap), .int .i64 left] w fun r w' => r = .returned (.int .i64 (lessX left e.sz)) ∧ Below w.heap.size w w'
set_option maxHeartbeats 1000000 in
theorem szXS_of (e : Ex) (ih : ∀ i, i < e.l.length → SzP (xAt e.l i)) (b : Option Addr) (cap : Nat) (left : Int) (w : World) (hr : RdX w 0 e b) (hf : Fit e) (h0 : 0 ≤ left) (h1 : left ≤ 1048576) : Calls Tryd.prog 32 #[.slice b e.l.length cap, .int .i64 left] w fun r w' => r = .returned (.int .i64 (lessX left (e.l.length + szX e.l))) ∧ Below w.heap.size w w' := by
  obtain ⟨_, hm, hfi⟩ := (Fit_eq e).1 hf
  rw [RdX_eq] at hr
  generalize e.l = l at *
  clear hf
  obtain ⟨len, hl⟩ : ∃ len, l.length = len := ⟨_, rfl⟩
  rw [hl] at hm ih hfi hr ⊢
  by_cases hbig : left - (len : Int) < 0
  · have E := hide (show lessX left (len + szX l) = -1 by unfold lessX; rw [if_pos (by omega)])
    rw [unhide E]
    go_enter Tryd.func32, Tryd.ntmps32
    go_wp2
    go_ret
    exact ⟨rfl, Below.refl _ _⟩
  · obtain ⟨T, hT⟩ : ∃ T, lessX left (len + szX l) = T := ⟨_, rfl⟩
    have HT := hide hT
    rw [hT]
    clear hT
    go_enter Tryd.func32, Tryd.ntmps32
    go_wp2
    go_loopw [1, 5] (fun lv i wr => ∃ k : Nat, k ≤ len ∧ i = .int .i64 k ∧ 0 ≤ left - (len : Int) - (szX (l.take k) : Int) ∧ lv = .int .i64 (left - len - szX (l.take k)) ∧ Below w.heap.size w wr) (fun _ i _ => len - (intOf i).toNat)
    case atStart => exact ⟨0, Nat.zero_le _, rfl, by simp [szX]; omega, by simp [szX], Below.refl _ _⟩
    case round =>
      obtain ⟨k, hk, rfl, hs, rfl, hb⟩ := hrel
      by_cases hlt : k < len
      · rcases hr with h00 | ⟨b, off, rfl, _, hbl, hc⟩
        · rw [h00] at hl; simp at hl; omega
        obtain ⟨c0, c1, c2, c, cap', c3, c4⟩ := hc k (by omega)
        have d0 : wr.cell? ⟨b, off + k * 4, none⟩ = _ := (hb.cell (p := ⟨b, _, none⟩) hbl).trans c0
        have d1 : wr.cell? ⟨b, off + k * 4 + 1, none⟩ = _ := (hb.cell (p := ⟨b, _, none⟩) hbl).trans c1
        have d2 : wr.cell? ⟨b, off + k * 4 + 2, none⟩ = _ := (hb.cell (p := ⟨b, _, none⟩) hbl).trans c2
        have d3 : wr.cell? ⟨b, off + k * 4 + 3, none⟩ = _ := (hb.cell (p := ⟨b, _, none⟩) hbl).trans c3
        have HS := hide (ih k hlt c cap' (left - len - szX (l.take k)) wr (c4.later hb) (hfi k hlt) hs (by omega))
        have ST := hide (szX_take l k (by omega))
        have SL := hide (szX_le l (k + 1))
        clear c0 c1 c2 c3 c4 hc
        unfold Ex.cs at HS
        generalize hzs : (xAt l k).sz = z at HS ST
        generalize (xAt l k).s = ss at d2 HS
        generalize (xAt l k).k = kk at d0 HS
        generalize (xAt l k).n = nn at d1 HS
        generalize (xAt l k).l.length = ll at d3 HS
        by_cases hneg : left - (len : Int) - (szX (l.take k) : Int) - (z : Int) < 0
        · have E := hide (show T = -1 by rw [← unhide HT]; unfold lessX; rw [if_pos]; have := unhide ST; have := unhide SL; omega)
          have E2 : lessX (left - (len : Int) - (szX (l.take k) : Int)) z = -1 := by unfold lessX; rw [if_pos hneg]
          rw [E2] at HS
          go_wp2_with (go_at_call 26; refine (unhide HS).mono ?_; rintro e w1 ⟨rfl, hb1⟩)
          go_ret
          exact ⟨by rw [unhide E]; rfl, hb.trans (hb1.mono hb.size)⟩
        · have E2 : lessX (left - (len : Int) - (szX (l.take k) : Int)) z = left - (len : Int) - (szX (l.take k) : Int) - (z : Int) := by unfold lessX; rw [if_neg hneg]
          rw [E2] at HS
          go_wp2_with (go_at_call 26; refine (unhide HS).mono ?_; rintro e w1 ⟨rfl, hb1⟩)
          go_roundw
          case rel =>
            refine ⟨k + 1, by omega, by go_num, ?_, ?_, hb.trans (hb1.mono hb.size)⟩
            · rw [unhide ST]; omega
            · rw [unhide ST]; congr 1; omega
          case measure => simp [intOf]; omega
      · obtain rfl : k = len := by omega
        have E := hide (show l.take k = l by rw [← hl, List.take_length])
        rw [unhide E] at hs
        have E2 := hide (show T = left - (k : Int) - (szX (l.take k) : Int) by rw [← unhide HT]; unfold lessX; rw [unhide E, if_neg (by omega)]; omega)
        go_wp2
        go_ret
        exact ⟨by rw [unhide E2]; rfl, hb⟩
set_option maxHeartbeats 1000000 in
theorem szX_any (e : Ex) : SzP e := by
  induction e using Ex.ind with
  | h k n s l ih =>
    intro b cap left w hr hf h0 h1
    have hs := ((Fit_eq _).1 hf).1
    have HZ := hide (fun (w1 : World) (hb : Below w.heap.size w w1) (lv : Int) (h2 : 0 ≤ lv) (h3 : lv ≤ 1048576) => szXS_of ⟨k, n, s, l⟩ (fun i hi => ih _ (xAt_mem hi)) b cap lv w1 (hr.later hb) hf h2 h3)
    have SZ := hide (sz_is ⟨k, n, s, l⟩)
    have e1 : (Ex.mk k n s l).s = s := rfl
    have e2 : (Ex.mk k n s l).l = l := rfl
    rw [e1] at hs
    rw [e1, e2] at SZ
    rw [e2] at HZ
    unfold Ex.cs
    simp only
    rw [unhide SZ]
    clear hr hf ih SZ e1 e2
    generalize hll : l.length = ll at *
    generalize szX l = zz at *
    have hbW : Below w.heap.size w (w.alloc (.cells #[.int .i64 k, .int .i64 n, .string s, .slice b ll cap] 44)) := (Below.refl _ _).alloc (Nat.le_refl _) _
    have HB := hide hbW
    by_cases hneg : left - (s.size : Int) < 0
    · have E := hide (show lessX left (s.size + ll + zz) = -1 by unfold lessX; rw [if_pos (by omega)])
      rw [unhide E]
      clear HZ hbW
      go_enter Tryd.func26, Tryd.ntmps26
      go_wp2
      go_ret
      exact ⟨rfl, unhide HB⟩
    · have HS := hide (unhide HZ _ hbW (left - s.size) (by omega) (by omega))
      by_cases hneg2 : left - (s.size : Int) - ((ll + zz : Nat) : Int) < 0
      · have E := hide (show lessX left (s.size + ll + zz) = -1 by unfold lessX; rw [if_pos (by omega)])
        have E2 : lessX (left - s.size) (ll + zz) = -1 := by unfold lessX; rw [if_pos (by omega)]
        rw [E2] at HS
        rw [unhide E]
        clear HZ hbW
        go_enter Tryd.func26, Tryd.ntmps26
        go_wp2_with (go_at_call 32; refine (unhide HS).mono ?_; rintro e w1 ⟨rfl, hb1⟩)
        go_ret
        exact ⟨rfl, (unhide HB).trans (hb1.mono (unhide HB).size)⟩
      · have E := hide (show lessX left (s.size + ll + zz) = left - (s.size : Int) - ((ll + zz : Nat) : Int) by unfold lessX; rw [if_neg (by omega)]; omega)
        have E2 : lessX (left - s.size) (ll + zz) = left - (s.size : Int) - ((ll + zz : Nat) : Int) := by unfold lessX; rw [if_neg (by omega)]
        rw [E2] at HS
        rw [unhide E]
        have hp : 0 ≤ left - (s.size : Int) - ((ll + zz : Nat) : Int) := by omega
        clear HZ hbW
        generalize left - (s.size : Int) - ((ll + zz : Nat) : Int) = rest at *
        go_enter Tryd.func26, Tryd.ntmps26
        go_wp2_with (go_at_call 32; refine (unhide HS).mono ?_; rintro e w1 ⟨rfl, hb1⟩)
        go_ret
        exact ⟨rfl, (unhide HB).trans (hb1.mono (unhide HB).size)⟩
end Go.Proofs.YtkolflcjkofleaaDoor

namespace Go.Proofs.YtkolflcjkofleaaDoor
open Go.ChangeShapes Go.WideShapes Go.ChangeAt Go.RowKit
set_option linter.unusedVariables false
set_option maxRecDepth 8000

/-- The parts of a term lie at a, each list in a whole block of cells that is not frozen; F: the blocks. -/
def OwX (w : World) : Ex → Option Addr → List Nat → Prop
  | ⟨_, _, _, l⟩, a, F => (l = [] ∧ F = []) ∨ ∃ (b : Nat) (cs : Array Value) (t : TypeId) (Fs : List (List Nat)), a = some ⟨b, 0, none⟩ ∧ w.heap[b]? = some (.cells cs t (0, 0)) ∧ l.length * 4 ≤ cs.size ∧ Fs.length = l.length ∧ F = b :: Fs.flatten ∧ ∀ x ∈ l, ∀ i, l[i]? = some x → cs[i * 4]? = some (.int .i64 x.k) ∧ cs[i * 4 + 1]? = some (.int .i64 x.n) ∧ cs[i * 4 + 2]? = some (.string x.s) ∧ ∃ c cap, cs[i * 4 + 3]? = some (.slice c x.l.length cap) ∧ OwX w x c (Fs.getD i [])
/-- One part in a row, owned. -/
def OwOne (w : World) (cs : Array Value) (i : Nat) (x : Ex) (F : List Nat) : Prop := cs[i * 4]? = some (.int .i64 x.k) ∧ cs[i * 4 + 1]? = some (.int .i64 x.n) ∧ cs[i * 4 + 2]? = some (.string x.s) ∧ ∃ c cap, cs[i * 4 + 3]? = some (.slice c x.l.length cap) ∧ OwX w x c F
theorem OwX_eq (w : World) (e : Ex) (a : Option Addr) (F : List Nat) : OwX w e a F ↔ ((e.l = [] ∧ F = []) ∨ ∃ (b : Nat) (cs : Array Value) (t : TypeId) (Fs : List (List Nat)), a = some ⟨b, 0, none⟩ ∧ w.heap[b]? = some (.cells cs t (0, 0)) ∧ e.l.length * 4 ≤ cs.size ∧ Fs.length = e.l.length ∧ F = b :: Fs.flatten ∧ ∀ i, i < e.l.length → OwOne w cs i (xAt e.l i) (Fs.getD i [])) := by
  obtain ⟨k, n, s, l⟩ := e
  rw [OwX]
  refine or_congr Iff.rfl (exists_congr fun b => exists_congr fun cs => exists_congr fun t => exists_congr fun Fs => and_congr Iff.rfl (and_congr Iff.rfl (and_congr Iff.rfl (and_congr Iff.rfl (and_congr Iff.rfl ⟨fun h i hi => ?_, fun h x hx i hi => ?_⟩)))))
  · exact h _ (xAt_mem hi) i (by rw [xAt_get hi]; exact List.getElem?_eq_getElem hi)
  · obtain ⟨hl, e⟩ := List.getElem?_eq_some_iff.1 hi
    have := h i hl
    rw [xAt_get hl, e] at this
    exact this
theorem getD_flat {Fs : List (List Nat)} {i : Nat} {b : Nat} (h : b ∈ Fs.getD i []) : b ∈ Fs.flatten := by
  rw [List.getD_eq_getElem?_getD] at h
  by_cases hi : i < Fs.length
  · rw [List.getElem?_eq_getElem hi] at h
    exact List.mem_flatten.2 ⟨_, List.getElem_mem hi, h⟩
  · rw [List.getElem?_eq_none (by omega)] at h
    cases h
theorem OwX.keep {w w' : World} (e : Ex) : ∀ a F, (∀ b ∈ F, w'.heap[b]? = w.heap[b]?) → OwX w e a F → OwX w' e a F := by
  induction e using Ex.ind with
  | h k n s l ih =>
    intro a F hk h
    rw [OwX_eq] at h ⊢
    rcases h with h | ⟨b, cs, t, Fs, ha, hh, hz, hF, rfl, h3⟩
    · exact .inl h
    · refine .inr ⟨b, cs, t, Fs, ha, (hk b List.mem_cons_self).trans hh, hz, hF, rfl, fun i hi => ?_⟩
      obtain ⟨c1, c2, c3, c, cap, c4, c5⟩ := h3 i hi
      exact ⟨c1, c2, c3, c, cap, c4, ih _ (xAt_mem hi) _ _ (fun b hb => hk b (List.mem_cons_of_mem _ (getD_flat hb))) c5⟩
theorem OwX.lt {w : World} (e : Ex) : ∀ a F, OwX w e a F → ∀ b ∈ F, b < w.heap.size := by
  induction e using Ex.ind with
  | h k n s l ih =>
    intro a F h
    rw [OwX_eq] at h
    rcases h with ⟨_, rfl⟩ | ⟨b, cs, t, Fs, ha, hh, hz, hF, rfl, h3⟩
    · intro b hb; cases hb
    · intro x hx
      rcases List.mem_cons.1 hx with rfl | hx
      · exact (Array.getElem?_eq_some_iff.1 hh).1
      · obtain ⟨G, hG, hx⟩ := List.mem_flatten.1 hx
        obtain ⟨i, hi, rfl⟩ := List.getElem_of_mem hG
        have hi2 : i < l.length := hF ▸ hi
        obtain ⟨c1, c2, c3, c, cap, c4, c5⟩ := h3 i hi2
        rw [List.getD_eq_getElem?_getD, List.getElem?_eq_getElem hi] at c5
        exact ih _ (xAt_mem hi2) _ _ c5 _ hx
theorem OwX.later {w w' : World} {e : Ex} {a : Option Addr} {F : List Nat} (h : OwX w e a F) (hb : Below w.heap.size w w') : OwX w' e a F :=
  OwX.keep e a F (fun b hF => hb.block b (OwX.lt e a F h b hF)) h
theorem OwX.rd {w : World} {B : Nat} (e : Ex) : ∀ a F, (∀ b ∈ F, B ≤ b) → OwX w e a F → RdX w B e a := by
  induction e using Ex.ind with
  | h k n s l ih =>
    intro a F hB h
    rw [OwX_eq] at h
    rw [RdX_eq]
    rcases h with h | ⟨b, cs, t, Fs, ha, hh, hz, hF, rfl, h3⟩
    · exact .inl h.1
    · refine .inr ⟨b, 0, ha, hB b List.mem_cons_self, (Array.getElem?_eq_some_iff.1 hh).1, fun i hi => ?_⟩
      obtain ⟨c1, c2, c3, c, cap, c4, c5⟩ := h3 i hi
      unfold OneX
      simp only [Nat.zero_add]
      exact ⟨(Lib.cell_of_heap hh _).trans c1, (Lib.cell_of_heap hh _).trans c2, (Lib.cell_of_heap hh _).trans c3, c, cap, (Lib.cell_of_heap hh _).trans c4, ih _ (xAt_mem hi) _ _ (fun b hb => hB b (List.mem_cons_of_mem _ (getD_flat hb))) c5⟩
/-- The parts of a term lie at a, in blocks of its own from B on, no two the same. -/
def NewX (w : World) (B : Nat) (e : Ex) (a : Option Addr) : Prop := ∃ F, OwX w e a F ∧ F.Nodup ∧ ∀ b ∈ F, B ≤ b
section
variable {w w' : World} {B C : Nat} {e : Ex} {a : Option Addr}
theorem NewX.rd (h : NewX w B e a) : RdX w B e a := by obtain ⟨F, h1, _, h3⟩ := h; exact OwX.rd e a F h3 h1
theorem NewX.later (h : NewX w B e a) (hb : Below w.heap.size w w') : NewX w' B e a := by obtain ⟨F, h1, h2, h3⟩ := h; exact ⟨F, h1.later hb, h2, h3⟩
theorem NewX.lower (h : NewX w B e a) (hC : C ≤ B) : NewX w C e a := by obtain ⟨F, h1, h2, h3⟩ := h; exact ⟨F, h1, h2, fun b hb => Nat.le_trans hC (h3 b hb)⟩
theorem NewX.far (h : NewX w B e a) (p : Addr) (v : Value) (hp : p.block < B) : NewX (w.setCell p v) B e a := by
  obtain ⟨F, h1, h2, h3⟩ := h
  exact ⟨F, OwX.keep e a F (fun b hb => heap_setCell_other w p b v (by have := h3 b hb; omega)) h1, h2, h3⟩
theorem NewX.nil (w : World) (B : Nat) (k n : Int) (s : ByteArray) (a : Option Addr) : NewX w B ⟨k, n, s, []⟩ a := ⟨[], (OwX_eq _ _ _ _).2 (.inl ⟨rfl, rfl⟩), List.nodup_nil, fun b hb => by cases hb⟩
end
end Go.Proofs.YtkolflcjkofleaaDoor

namespace Go.Proofs.YtkolflcjkofleaaDoor
open Go.ChangeShapes Go.WideShapes Go.ChangeAt Go.RowKit
set_option linter.unusedVariables false
set_option maxRecDepth 8000

theorem infoX : (Tryd.prog.info? 26).map (fun i => (i.zero, i.size, i.bytes)) = some (some (.agg #[.int .i64 0, .int .i64 0, .string ⟨#[]⟩, .slice none 0 0]), 4, 56) := by kernel_rfl
theorem sz_part {l : List Ex} {i : Nat} (h : i < l.length) : (xAt l i).sz ≤ szX l := by
  have h1 := szX_take l i h
  have h2 := szX_le l (i + 1)
  omega
/-- One part in a list of cells, owned. -/
def OwIn (w : World) (cs : List Value) (i : Nat) (x : Ex) (F : List Nat) : Prop := cs[i * 4]? = some (.int .i64 x.k) ∧ cs[i * 4 + 1]? = some (.int .i64 x.n) ∧ cs[i * 4 + 2]? = some (.string x.s) ∧ ∃ c cap, cs[i * 4 + 3]? = some (.slice c x.l.length cap) ∧ OwX w x c F
theorem OwIn.keep {w w' : World} {cs : List Value} {i : Nat} {x : Ex} {F : List Nat} (h : OwIn w cs i x F) (hk : ∀ b ∈ F, w'.heap[b]? = w.heap[b]?) : OwIn w' cs i x F := by
  obtain ⟨h0, h1, h2, c, cap, h3, h4⟩ := h
  exact ⟨h0, h1, h2, c, cap, h3, OwX.keep _ _ _ hk h4⟩
/-- A row of cells at a block of its own, as it lies. -/
theorem ownsRow_heap {w : World} {B g n cap size : Nat} {t : TypeId} {cs : List Value} (h : w.ownsRow B t size (.slice (some ⟨g, 0, none⟩) n cap) n cs) : ∃ cur : Array Value, w.heap[g]? = some (.cells cur t (0, 0)) ∧ n * size ≤ cur.size ∧ ∀ j, j < n * size → cur[j]? = cs[j]? := by
  obtain ⟨h1, ⟨e, _⟩ | ⟨g', cap', cur, e, hg, hh, hn, hm, hz, ht⟩⟩ := h
  · cases e
  · cases e
    refine ⟨cur, hh, by rw [hz]; exact Nat.mul_le_mul_right _ hn, fun j hj => ?_⟩
    rw [← ht, List.getElem?_take, if_pos hj, Array.getElem?_toList]
/-- So many parts lie in the row of block g, each in blocks of its own between g and M. -/
def DoneX (w : World) (g : Nat) (l : List Ex) (n cap k M : Nat) : Prop := ∃ (cs : List Value) (Fs : List (List Nat)), w.ownsRow g 26 4 (.slice (some ⟨g, 0, none⟩) n cap) n cs ∧ Fs.length = k ∧ Fs.flatten.Nodup ∧ (∀ b ∈ Fs.flatten, g < b ∧ b < M) ∧ ∀ i, i < k → OwIn w cs i (xAt l i) (Fs.getD i [])
theorem ownsRow_later {w w' : World} {B g n cap m : Nat} {t : TypeId} {cs : List Value} (h : w.ownsRow B t m (.slice (some ⟨g, 0, none⟩) n cap) n cs) (hb : Below w.heap.size w w') : w'.ownsRow B t m (.slice (some ⟨g, 0, none⟩) n cap) n cs := by
  obtain ⟨h1, h2 | ⟨g, cap, cur, e, hg, hh, r⟩⟩ := h
  · exact ⟨h1, .inl h2⟩
  · exact ⟨h1, .inr ⟨g, cap, cur, e, hg, (hb.block g (Array.getElem?_eq_some_iff.1 hh).1).trans hh, r⟩⟩
theorem OwIn.lt {w : World} {cs : List Value} {i : Nat} {x : Ex} {F : List Nat} (h : OwIn w cs i x F) : ∀ b ∈ F, b < w.heap.size := by
  obtain ⟨_, _, _, c, cap, _, h⟩ := h
  exact OwX.lt _ _ _ h
theorem DoneX.later {w w' : World} {g n cap k M : Nat} {l : List Ex} (h : DoneX w g l n cap k M) (hb : Below w.heap.size w w') : DoneX w' g l n cap k M := by
  obtain ⟨cs, Fs, h1, h2, h3, h4, h5⟩ := h
  exact ⟨cs, Fs, ownsRow_later h1 hb, h2, h3, h4, fun i hi => (h5 i hi).keep fun b hF => hb.block b ((h5 i hi).lt b hF)⟩
theorem flat_snoc (Fs : List (List Nat)) (F : List Nat) : (Fs ++ [F]).flatten = Fs.flatten ++ F := by simp
theorem getD_snoc_lt {Fs : List (List Nat)} {F : List Nat} {i : Nat} (h : i < Fs.length) : (Fs ++ [F]).getD i [] = Fs.getD i [] := by
  rw [List.getD_eq_getElem?_getD, List.getD_eq_getElem?_getD, List.getElem?_append_left h]
theorem getD_snoc_eq {Fs : List (List Nat)} {F : List Nat} {i : Nat} (h : i = Fs.length) : (Fs ++ [F]).getD i [] = F := by
  rw [List.getD_eq_getElem?_getD, h, List.getElem?_append_right (Nat.le_refl _)]
  simp
theorem nodup_snoc {a b : List Nat} {M : Nat} (ha : a.Nodup) (hb : b.Nodup) (h1 : ∀ x ∈ a, x < M) (h2 : ∀ x ∈ b, M ≤ x) : (a ++ b).Nodup := by
  rw [List.nodup_append]
  exact ⟨ha, hb, fun x hx y hy e => by have := h1 x hx; have := h2 y hy; omega⟩
theorem DoneX.put {w : World} {g n cap k M M' : Nat} {l : List Ex} (h : DoneX w g l n cap k M) (hk : k < n) (hg : g < M) (hM : M ≤ M') (c : Option Addr) (cp : Nat) (hr : NewX w M (xAt l k) c) (hz : w.heap.size ≤ M') :
    DoneX ((((w.setCell ⟨g, k * 4, none⟩ (.int .i64 (xAt l k).k)).setCell ⟨g, k * 4 + 1, none⟩ (.int .i64 (xAt l k).n)).setCell ⟨g, k * 4 + 2, none⟩ (.string (xAt l k).s)).setCell ⟨g, k * 4 + 3, none⟩ (.slice c (xAt l k).l.length cp)) g l n cap (k + 1) M' := by
  obtain ⟨cs, Fs, h1, h2, h3, h4, h5⟩ := h
  obtain ⟨F, q1, q2, q3⟩ := hr
  have hlen : cs.length = n * 4 := h1.1
  have s1 := (World.ownsRow.stored h1 (k * 4) (.int .i64 (xAt l k).k)).1
  have s2 := (World.ownsRow.stored s1 (k * 4 + 1) (.int .i64 (xAt l k).n)).1
  have s3 := (World.ownsRow.stored s2 (k * 4 + 2) (.string (xAt l k).s)).1
  have s4 := (World.ownsRow.stored s3 (k * 4 + 3) (.slice c (xAt l k).l.length cp)).1
  have hkeep : ∀ b, g < b → ((((w.setCell ⟨g, k * 4, none⟩ (.int .i64 (xAt l k).k)).setCell ⟨g, k * 4 + 1, none⟩ (.int .i64 (xAt l k).n)).setCell ⟨g, k * 4 + 2, none⟩ (.string (xAt l k).s)).setCell ⟨g, k * 4 + 3, none⟩ (.slice c (xAt l k).l.length cp)).heap[b]? = w.heap[b]? := fun b hb => by
    rw [heap_setCell_other _ _ _ _ (by show b ≠ g; omega), heap_setCell_other _ _ _ _ (by show b ≠ g; omega), heap_setCell_other _ _ _ _ (by show b ≠ g; omega), heap_setCell_other _ _ _ _ (by show b ≠ g; omega)]
  refine ⟨_, Fs ++ [F], s4, by simp [h2], ?_, ?_, fun i hi => ?_⟩
  · rw [flat_snoc]
    exact nodup_snoc h3 q2 (fun x hx => (h4 x hx).2) q3
  · rw [flat_snoc]
    intro b hb
    rcases List.mem_append.1 hb with hb | hb
    · have := h4 b hb; exact ⟨this.1, by omega⟩
    · have := q3 b hb
      have := OwX.lt _ _ _ q1 b hb
      exact ⟨by omega, by omega⟩
  · by_cases hik : i = k
    · subst hik
      rw [getD_snoc_eq h2.symm]
      refine ⟨?_, ?_, ?_, c, cp, ?_, OwX.keep _ _ _ (fun b hb => hkeep b (by have := q3 b hb; omega)) q1⟩
      · rw [List.getElem?_set_ne (by omega), List.getElem?_set_ne (by omega), List.getElem?_set_ne (by omega), List.getElem?_set_self (by omega)]
      · rw [List.getElem?_set_ne (by omega), List.getElem?_set_ne (by omega), List.getElem?_set_self (by simp; omega)]
      · rw [List.getElem?_set_ne (by omega), List.getElem?_set_self (by simp; omega)]
      · rw [List.getElem?_set_self (by simp; omega)]
    · rw [getD_snoc_lt (by omega)]
      obtain ⟨p0, p1, p2, c', cap', p3, p4⟩ := (h5 i (by omega)).keep (w' := ((((w.setCell ⟨g, k * 4, none⟩ (.int .i64 (xAt l k).k)).setCell ⟨g, k * 4 + 1, none⟩ (.int .i64 (xAt l k).n)).setCell ⟨g, k * 4 + 2, none⟩ (.string (xAt l k).s)).setCell ⟨g, k * 4 + 3, none⟩ (.slice c (xAt l k).l.length cp))) (fun b hb => hkeep b (h4 b (getD_flat hb)).1)
      refine ⟨?_, ?_, ?_, c', cap', ?_, p4⟩
      · rw [List.getElem?_set_ne (by omega), List.getElem?_set_ne (by omega), List.getElem?_set_ne (by omega), List.getElem?_set_ne (by omega)]; exact p0
      · rw [List.getElem?_set_ne (by omega), List.getElem?_set_ne (by omega), List.getElem?_set_ne (by omega), List.getElem?_set_ne (by omega)]; exact p1
      · rw [List.getElem?_set_ne (by omega), List.getElem?_set_ne (by omega), List.getElem?_set_ne (by omega), List.getElem?_set_ne (by omega)]; exact p2
      · rw [List.getElem?_set_ne (by omega), List.getElem?_set_ne (by omega), List.getElem?_set_ne (by omega), List.getElem?_set_ne (by omega)]; exact p3
/-- A row whose parts are all there is the term's. -/
theorem DoneX.new {w : World} {g cap M : Nat} {e : Ex} (h : DoneX w g e.l e.l.length cap e.l.length M) : NewX w g e (some ⟨g, 0, none⟩) := by
  obtain ⟨cs, Fs, h1, h2, h3, h4, h5⟩ := h
  by_cases h0 : e.l.length = 0
  · obtain ⟨k, n, s, l⟩ := e
    obtain rfl : l = [] := List.length_eq_zero_iff.1 h0
    exact NewX.nil ..
  · obtain ⟨cur, hh, hz, hc⟩ := ownsRow_heap h1
    refine ⟨g :: Fs.flatten, (OwX_eq _ _ _ _).2 (.inr ⟨g, cur, 26, Fs, rfl, hh, hz, h2, rfl, fun i hi => ?_⟩), ?_, ?_⟩
    · obtain ⟨p0, p1, p2, c, cp, p3, p4⟩ := h5 i hi
      exact ⟨(hc _ (by omega)).trans p0, (hc _ (by omega)).trans p1, (hc _ (by omega)).trans p2, c, cp, (hc _ (by omega)).trans p3, p4⟩
    · exact List.nodup_cons.2 ⟨fun hb => by have := (h4 g hb).1; omega, h3⟩
    · intro b hb
      rcases List.mem_cons.1 hb with rfl | hb
      · exact Nat.le_refl _
      · exact Nat.le_of_lt (h4 b hb).1
def ToP (e : Ex) : Prop := ∀ (b : Option Addr) (cap : Nat) (w : World), RdX w 0 e b → e.sz ≤ 1048576 → Calls Tryd.prog 27 #[.agg (e.cs b cap)] w fun r w' => ∃ (c : Option Addr) (cap' : Nat), r = .returned (.agg (e.cs c cap')) ∧ NewX w' w.heap.size e c ∧ Below w.heap.size w w'
end Go.Proofs.YtkolflcjkofleaaDoor

namespace Go.Proofs.YtkolflcjkofleaaDoor
open Go.ChangeShapes Go.WideShapes Go.ChangeAt Go.RowKit
set_option linter.unusedVariables false
set_option maxRecDepth 8000

theorem box4 (w : World) (e : Ex) (b : Option Addr) (cap : Nat) (ty : TypeId) : (w.alloc (.cells (e.cs b cap) ty)).cell? ⟨w.heap.size, 0, none⟩ = some (.int .i64 e.k) ∧ (w.alloc (.cells (e.cs b cap) ty)).cell? ⟨w.heap.size, 1, none⟩ = some (.int .i64 e.n) ∧ (w.alloc (.cells (e.cs b cap) ty)).cell? ⟨w.heap.size, 2, none⟩ = some (.string e.s) ∧ (w.alloc (.cells (e.cs b cap) ty)).cell? ⟨w.heap.size, 3, none⟩ = some (.slice b e.l.length cap) := by
  have h : (w.alloc (.cells (e.cs b cap) ty)).heap[w.heap.size]? = some (.cells (e.cs b cap) ty (0, 0)) := Array.getElem?_push_size
  exact ⟨Lib.cell_of_heap h 0, Lib.cell_of_heap h 1, Lib.cell_of_heap h 2, Lib.cell_of_heap h 3⟩
theorem all_take (l : List Ex) (f : Ex → Bool) (k : Nat) (h : k < l.length) : (l.take (k + 1)).all f = ((l.take k).all f && f (xAt l k)) := by
  rw [List.take_succ_eq_append_getElem h, List.all_append, xAt_get h]
  simp
theorem all_part {l : List Ex} {f : Ex → Bool} {k : Nat} (h : k < l.length) (hf : f (xAt l k) = false) : l.all f = false := by
  rw [List.all_eq_false]
  exact ⟨_, xAt_mem h, by rw [hf]; decide⟩
theorem okF_s (d : Nat) (p : Bool) (e : Ex) : okF (d + 1) p e = (e.here && (!(p && (e.k == 11 || e.k == 12)) && e.l.all (okF d p))) := rfl
set_option maxHeartbeats 2000000 in
theorem okS_all : ∀ d : Nat, d ≤ 6 → ∀ (e : Ex) (b : Option Addr) (cap : Nat) (p : Bool) (w : World), RdX w 0 e b → e.sz ≤ 1048576 → Calls Tryd.prog 77 #[.agg (e.cs b cap), .int .i64 (7 - (d : Int)), .bool p] w fun r w' => r = .returned (.bool (okF d p e)) ∧ Below w.heap.size w w' := by
  intro d
  induction d with
  | zero =>
    intro _ e b cap p w hr hz
    have B0 := hide (below_new w (.cells (e.cs b cap) 26))
    rw [show okF 0 p e = false from rfl]
    unfold Ex.cs at B0 ⊢
    go_enter Tryd.func77, Tryd.ntmps77
    go_wp2
    go_ret
    exact ⟨rfl, unhide B0⟩
  | succ d ih =>
    intro hd e b cap p w hr hz
    have hsz := sz_is e
    rw [okF_s]
    have hbW := below_new w (.cells (e.cs b cap) 26)
    have B0 := hide hbW
    have HH := hereS_any e b cap (w.alloc (.cells (e.cs b cap) 26)) (by omega) (by omega)
    obtain ⟨x0, x1, x2, x3⟩ := box4 w e b cap 26
    have xl : w.heap.size < (w.alloc (.cells (e.cs b cap) 26)).heap.size := by simp
    have hrW := hr.later hbW
    rw [RdX_eq] at hrW
    have hp : ∀ i, i < e.l.length → (xAt e.l i).sz ≤ 1048576 := fun i hi => by have := sz_part hi; omega
    have hm : e.l.length ≤ 1048576 := by omega
    have ihd := ih (by omega)
    have hD : (7 : Int) - ((d + 1 : Nat) : Int) + 1 = 7 - (d : Int) := by omega
    have hD6 : ¬ (6 < (7 : Int) - ((d + 1 : Nat) : Int)) := by omega
    have hDb : -100 ≤ (7 : Int) - ((d + 1 : Nat) : Int) ∧ (7 : Int) - ((d + 1 : Nat) : Int) ≤ 100 := by omega
    generalize hDD : (7 : Int) - ((d + 1 : Nat) : Int) = DD at *
    clear hr hsz hz hbW ih hDD
    generalize e.here = hq at *
    unfold Ex.cs at B0 HH x0 x1 x2 x3 xl hrW ⊢
    generalize e.l = l at *
    generalize e.k = k at *
    generalize e.n = n at *
    generalize e.s = s at *
    obtain ⟨len, hl⟩ : ∃ len, l.length = len := ⟨_, rfl⟩
    rw [hl] at hm hp HH x0 x1 x2 x3 B0 xl hrW ⊢
    obtain ⟨W, hW⟩ : ∃ W, w.alloc (.cells #[.int .i64 k, .int .i64 n, .string s, .slice b len cap] 26) = W := ⟨_, rfl⟩
    rw [hW] at HH x0 x1 x2 x3 B0 xl hrW
    have HC := hide HH
    have E0 : ∀ y : Sub W.heap.size W, y.w.cell? ⟨w.heap.size, 0, none⟩ = _ := fun y => (y.h.cell (p := ⟨w.heap.size, _, none⟩) xl).trans x0
    have E3 : ∀ y : Sub W.heap.size W, y.w.cell? ⟨w.heap.size, 3, none⟩ = _ := fun y => (y.h.cell (p := ⟨w.heap.size, _, none⟩) xl).trans x3
    have ne := Sub.ne W.heap.size W
    have HZ := hide (Nat.le_refl W.heap.size)
    have HB := hide (fun y : Sub W.heap.size W => (unhide B0).trans (y.h.mono (unhide B0).size))
    clear HH xl
    obtain ⟨T, hT⟩ : ∃ T, (hq && (!(p && (k == 11 || k == 12)) && l.all (okF d p))) = T := ⟨_, rfl⟩
    have HT := hide hT
    rw [hT]
    clear hT
    go_enter Tryd.func77, Tryd.ntmps77
    go_wp2_with fail
    refine (Sub.call (x := ⟨W, Below.refl _ _⟩) (unhide HZ) (unhide HC)).mono ?_
    rintro r _ ⟨rfl, y, rfl⟩
    clear HC x0 x1 x2 x3
    cases hq with
    | false =>
      have EF := hide ((unhide HT).symm.trans (Bool.false_and _))
      go_wp2
      go_ret
      exact ⟨by rw [unhide EF]; rfl, unhide HB _⟩
    | true =>
      by_cases hx : (p && (k == 11 || k == 12)) = true
      · have EF := hide (show T = false by rw [← unhide HT, hx]; rfl)
        have hpp : p = true := by cases p with | true => rfl | false => simp at hx
        subst hpp
        by_cases h11 : k = 11
        · subst h11
          go_wp2
          go_ret
          exact ⟨by rw [unhide EF]; rfl, unhide HB _⟩
        · have h12 : k = 12 := by simpa [h11] using hx
          subst h12
          go_wp2
          go_ret
          exact ⟨by rw [unhide EF]; rfl, unhide HB _⟩
      · have hxf : (p && (k == 11 || k == 12)) = false := by simpa using hx
        rw [hxf] at HT
        have HT := hide (show l.all (okF d p) = T by rw [← unhide HT]; simp)
        clear hxf
        cases p with
        | false =>
          clear hx
          go_wp2
          go_loopw [7] (fun i wr => ∃ (j : Nat) (z : Sub W.heap.size W), j ≤ len ∧ i = .int .i64 j ∧ (l.take j).all (okF d false) = true ∧ wr = z.w) (fun i _ => len - (intOf i).toNat)
          case atStart => exact ⟨0, y, Nat.zero_le _, rfl, rfl, rfl⟩
          case round =>
            obtain ⟨j, z, hj, rfl, hdone, rfl⟩ := hrel
            have HD := hide hdone
            clear hdone
            by_cases hlt : j < len
            · rcases hrW with h0 | ⟨p1, po, hb1, _, hp1, hpc⟩
              · rw [h0] at hl; simp at hl; omega
              subst hb1
              obtain ⟨e0, e1, e2, pc, pp, e3, e4⟩ := hpc j (by omega)
              have d0 : ∀ y : Sub W.heap.size W, y.w.cell? ⟨p1, po + j * 4, none⟩ = _ := fun y => (y.h.cell (p := ⟨p1, _, none⟩) hp1).trans e0
              have d1 : ∀ y : Sub W.heap.size W, y.w.cell? ⟨p1, po + j * 4 + 1, none⟩ = _ := fun y => (y.h.cell (p := ⟨p1, _, none⟩) hp1).trans e1
              have d2 : ∀ y : Sub W.heap.size W, y.w.cell? ⟨p1, po + j * 4 + 2, none⟩ = _ := fun y => (y.h.cell (p := ⟨p1, _, none⟩) hp1).trans e2
              have d3 : ∀ y : Sub W.heap.size W, y.w.cell? ⟨p1, po + j * 4 + 3, none⟩ = _ := fun y => (y.h.cell (p := ⟨p1, _, none⟩) hp1).trans e3
              have HE := hide (fun y : Sub W.heap.size W => ihd (xAt l j) pc pp false y.w (e4.later y.h) (hp j hlt))
              have AT := hide (all_take l (okF d false) j (by omega))
              have AP := hide (fun h => all_part (f := okF d false) (show j < l.length by omega) h)
              clear e0 e1 e2 e3 e4 hpc ihd hp
              unfold Ex.cs at HE
              generalize okF d false (xAt l j) = q at *
              generalize (xAt l j).s = ss at *
              generalize (xAt l j).k = kk at *
              generalize (xAt l j).n = nn at *
              generalize (xAt l j).l.length = ll at *
              cases q with
              | false =>
                have EF := hide ((unhide HT).symm.trans (unhide AP rfl))
                go_wp2_with (go_at_call 77; refine (Sub.call (unhide HZ) (unhide HE _)).mono ?_; rintro r _ ⟨rfl, z2, rfl⟩)
                go_ret
                exact ⟨by rw [unhide EF]; rfl, unhide HB _⟩
              | true =>
                go_wp2_with (go_at_call 77; refine (Sub.call (unhide HZ) (unhide HE _)).mono ?_; rintro r _ ⟨rfl, z2, rfl⟩)
                go_roundw
                case rel => exact ⟨j + 1, z2, by omega, by go_num, by rw [unhide AT, unhide HD]; rfl, rfl⟩
                case measure => simp [intOf]; omega
            · obtain rfl : j = len := by omega
              have EF := hide ((unhide HT).symm.trans ((show l.all (okF d false) = (l.take j).all (okF d false) by rw [← hl, List.take_length]).trans (unhide HD)))
              go_wp2
              go_ret
              exact ⟨by rw [unhide EF]; rfl, unhide HB _⟩
        | true =>
          have h11 : (k == 11) = false := by simp at hx; simp [hx.1]
          have h12 : (k == 12) = false := by simp at hx; simp [hx.2]
          clear hx
          go_wp2
          go_loopw [7] (fun i wr => ∃ (j : Nat) (z : Sub W.heap.size W), j ≤ len ∧ i = .int .i64 j ∧ (l.take j).all (okF d true) = true ∧ wr = z.w) (fun i _ => len - (intOf i).toNat)
          case atStart => exact ⟨0, y, Nat.zero_le _, rfl, rfl, rfl⟩
          case round =>
            obtain ⟨j, z, hj, rfl, hdone, rfl⟩ := hrel
            have HD := hide hdone
            clear hdone
            by_cases hlt : j < len
            · rcases hrW with h0 | ⟨p1, po, hb1, _, hp1, hpc⟩
              · rw [h0] at hl; simp at hl; omega
              subst hb1
              obtain ⟨e0, e1, e2, pc, pp, e3, e4⟩ := hpc j (by omega)
              have d0 : ∀ y : Sub W.heap.size W, y.w.cell? ⟨p1, po + j * 4, none⟩ = _ := fun y => (y.h.cell (p := ⟨p1, _, none⟩) hp1).trans e0
              have d1 : ∀ y : Sub W.heap.size W, y.w.cell? ⟨p1, po + j * 4 + 1, none⟩ = _ := fun y => (y.h.cell (p := ⟨p1, _, none⟩) hp1).trans e1
              have d2 : ∀ y : Sub W.heap.size W, y.w.cell? ⟨p1, po + j * 4 + 2, none⟩ = _ := fun y => (y.h.cell (p := ⟨p1, _, none⟩) hp1).trans e2
              have d3 : ∀ y : Sub W.heap.size W, y.w.cell? ⟨p1, po + j * 4 + 3, none⟩ = _ := fun y => (y.h.cell (p := ⟨p1, _, none⟩) hp1).trans e3
              have HE := hide (fun y : Sub W.heap.size W => ihd (xAt l j) pc pp true y.w (e4.later y.h) (hp j hlt))
              have AT := hide (all_take l (okF d true) j (by omega))
              have AP := hide (fun h => all_part (f := okF d true) (show j < l.length by omega) h)
              clear e0 e1 e2 e3 e4 hpc ihd hp
              unfold Ex.cs at HE
              generalize okF d true (xAt l j) = q at *
              generalize (xAt l j).s = ss at *
              generalize (xAt l j).k = kk at *
              generalize (xAt l j).n = nn at *
              generalize (xAt l j).l.length = ll at *
              cases q with
              | false =>
                have EF := hide ((unhide HT).symm.trans (unhide AP rfl))
                go_wp2_with (go_at_call 77; refine (Sub.call (unhide HZ) (unhide HE _)).mono ?_; rintro r _ ⟨rfl, z2, rfl⟩)
                go_ret
                exact ⟨by rw [unhide EF]; rfl, unhide HB _⟩
              | true =>
                go_wp2_with (go_at_call 77; refine (Sub.call (unhide HZ) (unhide HE _)).mono ?_; rintro r _ ⟨rfl, z2, rfl⟩)
                go_roundw
                case rel => exact ⟨j + 1, z2, by omega, by go_num, by rw [unhide AT, unhide HD]; rfl, rfl⟩
                case measure => simp [intOf]; omega
            · obtain rfl : j = len := by omega
              have EF := hide ((unhide HT).symm.trans ((show l.all (okF d true) = (l.take j).all (okF d true) by rw [← hl, List.take_length]).trans (unhide HD)))
              go_wp2
              go_ret
              exact ⟨by rw [unhide EF]; rfl, unhide HB _⟩
set_option maxHeartbeats 1000000 in
theorem okS_any (e : Ex) (b : Option Addr) (cap : Nat) (w : World) (hr : RdX w 0 e b) (hz : e.sz ≤ 1048576) : Calls Tryd.prog 51 #[.agg (e.cs b cap)] w fun r w' => r = .returned (.bool (okF 6 false e)) ∧ Below w.heap.size w w' := by
  have B0 := below_new w (.cells (e.cs b cap) 26)
  have H := (okS_all 6 (by omega) e b cap false _ (hr.later B0) hz).mono (R' := fun r w' => r = .returned (.bool (okF 6 false e)) ∧ Below w.heap.size w w') (fun r w' h => ⟨h.1, B0.trans (h.2.mono B0.size)⟩)
  rw [show (7 : Int) - ((6 : Nat) : Int) = 1 by omega] at H
  have HH := hide H
  clear H hr B0
  unfold Ex.cs at HH ⊢
  generalize okF 6 false e = q at *
  generalize e.l.length = ll at *
  go_enter Tryd.func51, Tryd.ntmps51
  go_wp2_with (go_at_call 77; refine (unhide HH).mono ?_; rintro r w1 ⟨rfl, hb1⟩)
  go_ret
  exact ⟨rfl, hb1⟩
end Go.Proofs.YtkolflcjkofleaaDoor

namespace Go.Proofs.YtkolflcjkofleaaDoor
open Go.ChangeShapes Go.WideShapes Go.ChangeAt Go.RowKit
set_option linter.unusedVariables false
set_option maxRecDepth 8000
set_option linter.unusedSimpArgs false

set_option maxHeartbeats 2000000 in
theorem pair_any (k : Int) (u v : Value) (w : World) : Calls Tryd.prog 68 #[.int .i64 k, .agg #[u, v]] w fun r w' => ∃ x, r = .returned (.tuple #[x, .bool (inB k 5 10)]) ∧ (inB k 5 10 = true → x = .iface (pairT k) (.agg #[u, v])) ∧ Below w.heap.size w w' := by
  have B0 := hide (below_new w (.cells #[u, v] 107))
  by_cases h5 : k = 5
  · subst h5
    rw [show inB 5 5 10 = true by decide]
    go_enter Tryd.func68, Tryd.ntmps68
    go_wp2
    go_ret2
    exact ⟨_, rfl, fun _ => rfl, unhide B0⟩
  by_cases h6 : k = 6
  · subst h6
    rw [show inB 6 5 10 = true by decide]
    go_enter Tryd.func68, Tryd.ntmps68
    go_wp2
    go_ret2
    exact ⟨_, rfl, fun _ => rfl, unhide B0⟩
  by_cases h7 : k = 7
  · subst h7
    rw [show inB 7 5 10 = true by decide]
    go_enter Tryd.func68, Tryd.ntmps68
    go_wp2
    go_ret2
    exact ⟨_, rfl, fun _ => rfl, unhide B0⟩
  by_cases h8 : k = 8
  · subst h8
    rw [show inB 8 5 10 = true by decide]
    go_enter Tryd.func68, Tryd.ntmps68
    go_wp2
    go_ret2
    exact ⟨_, rfl, fun _ => rfl, unhide B0⟩
  by_cases h9 : k = 9
  · subst h9
    rw [show inB 9 5 10 = true by decide]
    go_enter Tryd.func68, Tryd.ntmps68
    go_wp2
    go_ret2
    exact ⟨_, rfl, fun _ => rfl, unhide B0⟩
  by_cases h10 : k = 10
  · subst h10
    rw [show inB 10 5 10 = true by decide]
    go_enter Tryd.func68, Tryd.ntmps68
    go_wp2
    go_ret2
    exact ⟨_, rfl, fun _ => rfl, unhide B0⟩
  have g5 : (k == 5) = false := beq_eq_false_iff_ne.2 h5
  have g6 : (k == 6) = false := beq_eq_false_iff_ne.2 h6
  have g7 : (k == 7) = false := beq_eq_false_iff_ne.2 h7
  have g8 : (k == 8) = false := beq_eq_false_iff_ne.2 h8
  have g9 : (k == 9) = false := beq_eq_false_iff_ne.2 h9
  have g10 : (k == 10) = false := beq_eq_false_iff_ne.2 h10
  rw [show inB k 5 10 = false by unfold inB; simp; omega]
  go_enter Tryd.func68, Tryd.ntmps68
  go_wp2
  go_ret2
  exact ⟨_, rfl, (fun h => by cases h), unhide B0⟩
theorem here_one (k : Int) : hereV k 0 ⟨#[]⟩ 1 = (k == 4) := by
  unfold hereV Ex.here
  simp only [List.length_replicate, eqE1]
  by_cases h1 : k = 1
  · subst h1; rfl
  by_cases h2 : k = 2
  · subst h2; simp
  by_cases h12 : k = 12
  · subst h12; simp
  by_cases h11 : k = 11
  · subst h11; simp
  by_cases h3 : k = 3
  · subst h3; rfl
  by_cases h4 : k = 4
  · subst h4; rfl
  rw [if_neg (by simp), if_neg h1, if_neg (by omega), if_neg h3, if_neg h4, show (k == 4) = false from beq_eq_false_iff_ne.2 h4]
  split
  · rfl
  · rfl
theorem here_two (k : Int) : hereV k 0 ⟨#[]⟩ 2 = inB k 5 10 := by
  unfold hereV Ex.here
  simp only [List.length_replicate, eqE1]
  by_cases h1 : k = 1
  · subst h1; rfl
  by_cases h2 : k = 2
  · subst h2; simp [inB]
  by_cases h12 : k = 12
  · subst h12; simp [inB]
  by_cases h11 : k = 11
  · subst h11; simp [inB]
  by_cases h3 : k = 3
  · subst h3; rfl
  by_cases h4 : k = 4
  · subst h4; rfl
  rw [if_neg (by simp), if_neg h1, if_neg (by omega), if_neg h3, if_neg h4]
  split
  · rename_i h; rw [inB_t _ _ _ h.1 h.2]; rfl
  · rename_i h; rw [inB_f _ _ _ h]
theorem here_more (k n : Int) (s : ByteArray) (ll : Nat) (h : 3 ≤ ll) : hereV k n s ll = false := by
  have e0 : (ll == 0) = false := beq_eq_false_iff_ne.2 (by omega)
  have e1 : (ll == 1) = false := beq_eq_false_iff_ne.2 (by omega)
  have e2 : (ll == 2) = false := beq_eq_false_iff_ne.2 (by omega)
  unfold hereV Ex.here
  simp only [List.length_replicate, e0, e1, e2, Bool.and_false]
  repeat' split
  all_goals rfl
theorem hereV_n (k n : Int) (s : ByteArray) (ll : Nat) (h : 1 ≤ ll) (hn : n ≠ 0) : hereV k n s ll = false := by
  have e0 : (ll == 0) = false := beq_eq_false_iff_ne.2 (by omega)
  have en : (n != 0) = true := by simp [hn]
  unfold hereV Ex.here
  simp only [List.length_replicate, e0, Bool.and_false, en, Bool.and_true]
  by_cases h1 : k = 1
  · subst h1; repeat' split
    all_goals first | rfl | omega
  by_cases h11 : k = 11
  · subst h11; repeat' split
    all_goals first | rfl | omega
  rw [if_pos (by simp [h1, h11])]
theorem hereV_s (k n : Int) (s : ByteArray) (ll : Nat) (h : 1 ≤ ll) (hs : s ≠ E0) : hereV k n s ll = false := by
  have e0 : (ll == 0) = false := beq_eq_false_iff_ne.2 (by omega)
  have es := (emp_E s hs).2
  unfold hereV Ex.here
  simp only [List.length_replicate, e0, Bool.and_false, es, Bool.not_false, Bool.and_true]
  by_cases h1 : k = 2
  · subst h1; repeat' split
    all_goals first | rfl | omega
  by_cases h11 : k = 12
  · subst h11; repeat' split
    all_goals first | rfl | omega
  rw [if_pos (by simp [h1, h11])]
theorem okf_v (d : Nat) (k n : Int) (s : ByteArray) (l : List Ex) : okF (d + 1) false ⟨k, n, s, l⟩ = (hereV k n s l.length && l.all (okF d false)) := by
  rw [okF_s, here_is]
  rfl
theorem tv_if (e : Ex) : ∃ t x, tv e = .iface t x := by
  obtain ⟨k, n, s, l⟩ := e
  rw [tv]
  unfold tvC
  repeat' split
  all_goals exact ⟨_, _, rfl⟩
def TermR (d : Nat) (e : Ex) (w : World) (r : Ending) (w' : World) : Prop := ∃ v, r = .returned (.tuple #[v, .bool (okF d false e)]) ∧ (okF d false e = true → v = tv e) ∧ Below w.heap.size w w'
theorem termR_of {d : Nat} {e : Ex} {w : World} {r : Ending} {w' : World} {v : Value} {q : Bool} (h : okF d false e = q) (hr : r = .returned (.tuple #[v, .bool q])) (hv : q = true → v = tv e) (hb : Below w.heap.size w w') : TermR d e w r w' := ⟨v, by rw [h]; exact hr, fun x => hv (h.symm.trans x), hb⟩
def TermP (d : Nat) : Prop := ∀ (e : Ex) (b : Option Addr) (cap : Nat) (w : World), RdX w 0 e b → e.sz ≤ 1048576 → TabK w → Calls Tryd.prog 45 #[.agg (e.cs b cap), .int .i64 d] w (TermR d e w)
theorem rd_at {w : World} {e : Ex} {b : Option Addr} (h : RdX w 0 e b) {i : Nat} (hi : i < e.l.length) : ∃ p po, b = some ⟨p, po, none⟩ ∧ p < w.heap.size ∧ OneX w 0 p (po + i * 4) (xAt e.l i) := by
  rw [RdX_eq] at h
  rcases h with h | ⟨p, po, rfl, _, hp, hc⟩
  · rw [h] at hi; simp at hi
  · exact ⟨p, po, rfl, hp, hc i hi⟩
set_option maxHeartbeats 2000000 in
theorem term_zero : TermP 0 := by
  intro e b cap w hr hz ht
  have B0 := hide (below_new w (.cells (e.cs b cap) 26))
  have FN := hide (fun r w' v => termR_of (d := 0) (e := e) (w := w) (r := r) (w' := w') (v := v) rfl)
  generalize TermR 0 e w = R at *
  unfold Ex.cs at B0 ⊢
  go_enter Tryd.func45, Tryd.ntmps45
  go_wp2
  (try go_ret2)
  exact unhide FN _ _ _ rfl (fun h => by cases h) (unhide B0)
set_option maxHeartbeats 2000000 in
theorem term_nil (d : Nat) (h6 : d ≤ 6) (k n : Int) (s : ByteArray) (b : Option Addr) (cap : Nat) (w : World) (hs : s.size ≤ 1048576) (ht : TabK w) : Calls Tryd.prog 45 #[.agg #[.int .i64 k, .int .i64 n, .string s, .slice b 0 cap], .int .i64 ((d + 1 : Nat) : Int)] w (TermR (d + 1) ⟨k, n, s, []⟩ w) := by
  obtain ⟨W, hW⟩ : ∃ W, w.alloc (.cells #[.int .i64 k, .int .i64 n, .string s, .slice b 0 cap] 26) = W := ⟨_, rfl⟩
  have B0 := hide (below_new w (.cells #[.int .i64 k, .int .i64 n, .string s, .slice b 0 cap] 26))
  have hg : W.heap[w.heap.size]? = some (.cells #[.int .i64 k, .int .i64 n, .string s, .slice b 0 cap] 26 (0, 0)) := by rw [← hW]; exact Array.getElem?_push_size
  rw [hW] at B0
  have x0 := Lib.cell_of_heap hg 0
  have x1 := Lib.cell_of_heap hg 1
  have x2 := Lib.cell_of_heap hg 2
  have x3 := Lib.cell_of_heap hg 3
  have xl : w.heap.size < W.heap.size := (Array.getElem?_eq_some_iff.1 hg).1
  have hd0 : (((d + 1 : Nat) : Int) == 0) = false := beq_eq_false_iff_ne.2 (by omega)
  have hd1 : ((d + 1 : Nat) : Int) - 1 = (d : Int) := by omega
  have hdb : 0 ≤ ((d + 1 : Nat) : Int) ∧ ((d + 1 : Nat) : Int) ≤ 100 := by omega
  have LF := hide (leaf_any k n s b 0 cap W (by omega) (ht.next (unhide B0)))
  have FN := hide (fun r w' v q (h : hereV k n s 0 = q) => termR_of (d := d + 1) (e := ⟨k, n, s, []⟩) (w := w) (r := r) (w' := w') (v := v) ((okf_v d k n s []).trans ((Bool.and_true _).trans h)))
  have TV := hide (show tv ⟨k, n, s, []⟩ = tvC k n s [] by rw [tv]; rfl)
  rw [unhide TV] at FN
  generalize TermR (d + 1) ⟨k, n, s, []⟩ w = R at *
  clear hg xl ht TV
  generalize hDD : ((d + 1 : Nat) : Int) = DD at *
  go_enter Tryd.func45, Tryd.ntmps45
  go_wp2_with fail
  refine (unhide LF).mono ?_
  rintro r w1 ⟨v, rfl, hv, hb1⟩
  have F2 := hide (unhide FN (.returned (.tuple #[v, .bool (hereV k n s 0)])) w1 v _ rfl rfl hv ((unhide B0).trans (hb1.mono (unhide B0).size)))
  generalize hereV k n s 0 = q at *
  clear FN hv hb1
  go_wp2
  (try go_ret2)
  exact unhide F2
set_option maxHeartbeats 2000000 in
theorem term_bad (d : Nat) (h6 : d ≤ 6) (k n : Int) (s : ByteArray) (l : List Ex) (b : Option Addr) (cap : Nat) (w : World) (hz : l.length ≤ 1048576) (h1 : 1 ≤ l.length) (h : 3 ≤ l.length ∨ n ≠ 0 ∨ s ≠ E0) : Calls Tryd.prog 45 #[.agg #[.int .i64 k, .int .i64 n, .string s, .slice b l.length cap], .int .i64 ((d + 1 : Nat) : Int)] w (TermR (d + 1) ⟨k, n, s, l⟩ w) := by
  have V : hereV k n s l.length = false := by
    rcases h with h | h | h
    · exact here_more k n s _ h
    · exact hereV_n k n s _ h1 h
    · exact hereV_s k n s _ h1 h
  have FN := hide (fun r w' v => termR_of (d := d + 1) (e := ⟨k, n, s, l⟩) (w := w) (r := r) (w' := w') (v := v) (q := false) (by rw [okf_v, V]; rfl))
  generalize TermR (d + 1) ⟨k, n, s, l⟩ w = R at *
  clear V
  generalize l.length = ll at *
  obtain ⟨W, hW⟩ : ∃ W, w.alloc (.cells #[.int .i64 k, .int .i64 n, .string s, .slice b ll cap] 26) = W := ⟨_, rfl⟩
  have B0 := hide (below_new w (.cells #[.int .i64 k, .int .i64 n, .string s, .slice b ll cap] 26))
  have hg : W.heap[w.heap.size]? = some (.cells #[.int .i64 k, .int .i64 n, .string s, .slice b ll cap] 26 (0, 0)) := by rw [← hW]; exact Array.getElem?_push_size
  rw [hW] at B0
  have x0 := Lib.cell_of_heap hg 0
  have x1 := Lib.cell_of_heap hg 1
  have x2 := Lib.cell_of_heap hg 2
  have x3 := Lib.cell_of_heap hg 3
  have xl : w.heap.size < W.heap.size := (Array.getElem?_eq_some_iff.1 hg).1
  have hd0 : (((d + 1 : Nat) : Int) == 0) = false := beq_eq_false_iff_ne.2 (by omega)
  have hd1 : ((d + 1 : Nat) : Int) - 1 = (d : Int) := by omega
  have hdb : 0 ≤ ((d + 1 : Nat) : Int) ∧ ((d + 1 : Nat) : Int) ≤ 100 := by omega
  clear hg xl
  have h0 : ((ll : Int) == 0) = false := beq_eq_false_iff_ne.2 (by omega)
  generalize hDD : ((d + 1 : Nat) : Int) = DD at *
  by_cases h3 : 3 ≤ ll
  · have g3 : (2 : Int) < (ll : Int) := by omega
    clear h
    go_enter Tryd.func45, Tryd.ntmps45
    go_wp2
    (try go_ret2)
    exact unhide FN _ _ _ rfl (fun h => by cases h) (unhide B0)
  · have g3 : decide ((2 : Int) < (ll : Int)) = false := decide_eq_false (by omega)
    have g4 : decide (2 < ll) = false := decide_eq_false (by omega)
    by_cases hn : n = 0
    · subst hn
      have hs : s ≠ E0 := by rcases h with h | h | h; omega; exact absurd rfl h; exact h
      obtain ⟨e1, e2⟩ := emp_E s hs
      clear h
      go_enter Tryd.func45, Tryd.ntmps45
      go_wp2
      (try go_ret2)
      exact unhide FN _ _ _ rfl (fun h => by cases h) (unhide B0)
    · have en : (n == 0) = false := beq_eq_false_iff_ne.2 hn
      clear h
      go_enter Tryd.func45, Tryd.ntmps45
      go_wp2
      (try go_ret2)
      exact unhide FN _ _ _ rfl (fun h => by cases h) (unhide B0)
set_option maxHeartbeats 4000000 in
theorem term_one (d : Nat) (h6 : d ≤ 6) (ih : TermP d) (k : Int) (a : Ex) (b : Option Addr) (cap : Nat) (w : World) (hr : RdX w 0 ⟨k, 0, ⟨#[]⟩, [a]⟩ b) (hz : a.sz ≤ 1048576) (ht : TabK w) : Calls Tryd.prog 45 #[.agg #[.int .i64 k, .int .i64 0, .string ⟨#[]⟩, .slice b 1 cap], .int .i64 ((d + 1 : Nat) : Int)] w (TermR (d + 1) ⟨k, 0, ⟨#[]⟩, [a]⟩ w) := by
  obtain ⟨W, hW⟩ : ∃ W, w.alloc (.cells #[.int .i64 k, .int .i64 0, .string ⟨#[]⟩, .slice b 1 cap] 26) = W := ⟨_, rfl⟩
  have B0 := hide (below_new w (.cells #[.int .i64 k, .int .i64 0, .string ⟨#[]⟩, .slice b 1 cap] 26))
  have hg : W.heap[w.heap.size]? = some (.cells #[.int .i64 k, .int .i64 0, .string ⟨#[]⟩, .slice b 1 cap] 26 (0, 0)) := by rw [← hW]; exact Array.getElem?_push_size
  rw [hW] at B0
  have x0 := Lib.cell_of_heap hg 0
  have x1 := Lib.cell_of_heap hg 1
  have x2 := Lib.cell_of_heap hg 2
  have x3 := Lib.cell_of_heap hg 3
  have xl : w.heap.size < W.heap.size := (Array.getElem?_eq_some_iff.1 hg).1
  have hd0 : (((d + 1 : Nat) : Int) == 0) = false := beq_eq_false_iff_ne.2 (by omega)
  have hd1 : ((d + 1 : Nat) : Int) - 1 = (d : Int) := by omega
  have hdb : 0 ≤ ((d + 1 : Nat) : Int) ∧ ((d + 1 : Nat) : Int) ≤ 100 := by omega
  obtain ⟨p, po, rfl, hp, o0⟩ := rd_at (hr.later (unhide B0)) (i := 0) (show 0 < [a].length by simp)
  obtain ⟨e00, e01, e02, c0, cp0, e03, e04⟩ := o0
  simp only [show xAt [a] 0 = a from rfl] at e00 e01 e02 e03 e04
  rw [Nat.zero_mul, Nat.add_zero] at e00 e01 e02 e03
  have IH := hide (ih a c0 cp0 W e04 hz (ht.next (unhide B0)))
  have FN := hide (fun r w' v q (h : (k == 4 && okF d false a) = q) => termR_of (d := d + 1) (e := ⟨k, 0, ⟨#[]⟩, [a]⟩) (w := w) (r := r) (w' := w') (v := v) (q := q) (by rw [okf_v, ← h, show [a].length = 1 from rfl, here_one]; simp))
  have TV := hide (show k = 4 → tv ⟨k, 0, ⟨#[]⟩, [a]⟩ = .iface 104 (.agg #[tv a]) by rintro rfl; exact tv_neg _ _ _)
  generalize tv ⟨k, 0, ⟨#[]⟩, [a]⟩ = tve at *
  generalize TermR (d + 1) ⟨k, 0, ⟨#[]⟩, [a]⟩ w = R at *
  unfold Ex.cs at IH
  generalize a.k = ak at *
  generalize a.n = an at *
  generalize a.s = asv at *
  generalize a.l.length = al at *
  have y0 : ∀ w1, Below W.heap.size W w1 → w1.cell? ⟨w.heap.size, 0, none⟩ = some (.int .i64 k) := fun w1 hb => (hb.cell (p := ⟨w.heap.size, _, none⟩) xl).trans x0
  have y3 : ∀ w1, Below W.heap.size W w1 → w1.cell? ⟨w.heap.size, 3, none⟩ = some (.slice (some ⟨p, po, none⟩) 1 cap) := fun w1 hb => (hb.cell (p := ⟨w.heap.size, _, none⟩) xl).trans x3
  have Y0 := hide y0
  have Y3 := hide y3
  have KQ : k = 4 ∨ k ≠ 4 := by omega
  clear hg xl ht hr hz ih e04 y0 y3 hp
  generalize hDD : ((d + 1 : Nat) : Int) = DD at *
  go_enter Tryd.func45, Tryd.ntmps45
  go_wp2_with fail
  refine (unhide IH).mono ?_
  rintro r w1 ⟨v, rfl, hv, hb1⟩
  have BB := hide ((unhide B0).trans (hb1.mono (unhide B0).size))
  have z0 := unhide Y0 w1 hb1
  have z3 := unhide Y3 w1 hb1
  have HV := hide hv
  generalize okF d false a = q at *
  clear hv hb1 Y0 Y3 IH x0 x1 x2 x3 e00 e01 e02 e03
  cases q with
  | false =>
    have F2 := hide (fun r w' v => unhide FN r w' v false (Bool.and_false _))
    clear FN
    go_wp2
    (try go_ret2)
    exact unhide F2 _ _ _ rfl (fun h => by cases h) (unhide BB)
  | true =>
    obtain ⟨t1, x1, e1⟩ := tv_if a
    have hve := unhide HV rfl
    rw [e1] at hve TV
    subst hve
    clear HV e1
    have xl1 : w.heap.size < w1.heap.size := World.block_lt_of_cell? w1 _ z0
    have q0 : ∀ y : Sub w1.heap.size w1, y.w.cell? ⟨w.heap.size, 0, none⟩ = some (.int .i64 k) := fun y => (y.h.cell (p := ⟨w.heap.size, _, none⟩) xl1).trans z0
    have ne := Sub.ne w1.heap.size w1
    have BY := hide (fun y : Sub w1.heap.size w1 => (unhide BB).trans (y.h.mono (unhide BB).size))
    clear xl1
    rcases KQ with rfl | hk
    · have F2 := hide (fun r w' (hr : r = .returned (.tuple #[.iface 104 (.agg #[.iface t1 x1]), .bool true])) hb => unhide FN r w' _ true rfl hr (fun _ => (unhide TV rfl).symm) hb)
      clear FN TV
      go_wp2_with fail
      refine wp_region_sub (⟨w1, Below.refl _ _⟩ : Sub w1.heap.size w1) (by kernel_rfl) (by kernel_rfl) ?_
      repeat (go_big_quiet_step (first | fail))
      refine wpQuiet_nil ?_
      intro y
      go_wp2
      (try go_ret2)
      exact unhide F2 _ _ rfl (unhide BY _)
    · have hk4 : (k == 4) = false := beq_eq_false_iff_ne.2 hk
      have F2 := hide (fun r w' v => unhide FN r w' v false (by rw [hk4]; rfl))
      clear FN TV
      go_wp2_with fail
      refine wp_region_sub (⟨w1, Below.refl _ _⟩ : Sub w1.heap.size w1) (by kernel_rfl) (by kernel_rfl) ?_
      repeat (go_big_quiet_step (first | fail))
      refine wpQuiet_nil ?_
      intro y
      go_wp2
      (try go_ret2)
      exact unhide F2 _ _ _ rfl (fun h => by cases h) (unhide BY _)
set_option maxHeartbeats 4000000 in
theorem term_two (d : Nat) (h6 : d ≤ 6) (ih : TermP d) (k : Int) (a a2 : Ex) (b : Option Addr) (cap : Nat) (w : World) (hr : RdX w 0 ⟨k, 0, ⟨#[]⟩, [a, a2]⟩ b) (hz : a.sz ≤ 1048576) (hz2 : a2.sz ≤ 1048576) (ht : TabK w) : Calls Tryd.prog 45 #[.agg #[.int .i64 k, .int .i64 0, .string ⟨#[]⟩, .slice b 2 cap], .int .i64 ((d + 1 : Nat) : Int)] w (TermR (d + 1) ⟨k, 0, ⟨#[]⟩, [a, a2]⟩ w) := by
  obtain ⟨W, hW⟩ : ∃ W, w.alloc (.cells #[.int .i64 k, .int .i64 0, .string ⟨#[]⟩, .slice b 2 cap] 26) = W := ⟨_, rfl⟩
  have B0 := hide (below_new w (.cells #[.int .i64 k, .int .i64 0, .string ⟨#[]⟩, .slice b 2 cap] 26))
  have hg : W.heap[w.heap.size]? = some (.cells #[.int .i64 k, .int .i64 0, .string ⟨#[]⟩, .slice b 2 cap] 26 (0, 0)) := by rw [← hW]; exact Array.getElem?_push_size
  rw [hW] at B0
  have x0 := Lib.cell_of_heap hg 0
  have x1 := Lib.cell_of_heap hg 1
  have x2 := Lib.cell_of_heap hg 2
  have x3 := Lib.cell_of_heap hg 3
  have xl : w.heap.size < W.heap.size := (Array.getElem?_eq_some_iff.1 hg).1
  have hd0 : (((d + 1 : Nat) : Int) == 0) = false := beq_eq_false_iff_ne.2 (by omega)
  have hd1 : ((d + 1 : Nat) : Int) - 1 = (d : Int) := by omega
  have hdb : 0 ≤ ((d + 1 : Nat) : Int) ∧ ((d + 1 : Nat) : Int) ≤ 100 := by omega
  obtain ⟨p, po, rfl, hp, o0⟩ := rd_at (hr.later (unhide B0)) (i := 0) (show 0 < [a, a2].length by simp)
  obtain ⟨_, _, hpe, _, o1⟩ := rd_at (hr.later (unhide B0)) (i := 1) (show 1 < [a, a2].length by simp)
  cases hpe
  obtain ⟨e00, e01, e02, c0, cp0, e03, e04⟩ := o0
  simp only [show xAt [a, a2] 0 = a from rfl] at e00 e01 e02 e03 e04
  obtain ⟨e10, e11, e12, c1, cp1, e13, e14⟩ := o1
  simp only [show xAt [a, a2] 1 = a2 from rfl] at e10 e11 e12 e13 e14
  rw [Nat.zero_mul, Nat.add_zero] at e00 e01 e02 e03
  rw [Nat.one_mul] at e10 e11 e12 e13
  have IH := hide (ih a c0 cp0 W e04 hz (ht.next (unhide B0)))
  have IH2 := hide (fun w1 (hb : Below W.heap.size W w1) => ih a2 c1 cp1 w1 (e14.later hb) hz2 ((ht.next (unhide B0)).next hb))
  have FN := hide (fun r w' v q (h : (inB k 5 10 && (okF d false a && okF d false a2)) = q) => termR_of (d := d + 1) (e := ⟨k, 0, ⟨#[]⟩, [a, a2]⟩) (w := w) (r := r) (w' := w') (v := v) (q := q) (by rw [okf_v, ← h, show [a, a2].length = 2 from rfl, here_two]; simp))
  have TV := hide (show inB k 5 10 = true → tv ⟨k, 0, ⟨#[]⟩, [a, a2]⟩ = .iface (pairT k) (.agg #[tv a, tv a2]) by intro h; exact tv_two ((inB_iff _ _ _).1 h) _ _ _ _)
  generalize tv ⟨k, 0, ⟨#[]⟩, [a, a2]⟩ = tve at *
  generalize TermR (d + 1) ⟨k, 0, ⟨#[]⟩, [a, a2]⟩ w = R at *
  unfold Ex.cs at IH IH2
  generalize a.k = ak at *
  generalize a.n = an at *
  generalize a.s = asv at *
  generalize a.l.length = al at *
  generalize a2.k = bk at *
  generalize a2.n = bn at *
  generalize a2.s = bs at *
  generalize a2.l.length = bl at *
  have Y0 := hide (fun w1 (hb : Below W.heap.size W w1) => (hb.cell (p := ⟨w.heap.size, 0, none⟩) xl).trans x0)
  have Y3 := hide (fun w1 (hb : Below W.heap.size W w1) => (hb.cell (p := ⟨w.heap.size, 3, none⟩) xl).trans x3)
  have U0 := hide (fun w1 (hb : Below W.heap.size W w1) => (hb.cell (p := ⟨p, po + 4, none⟩) hp).trans e10)
  have U1 := hide (fun w1 (hb : Below W.heap.size W w1) => (hb.cell (p := ⟨p, po + 4 + 1, none⟩) hp).trans e11)
  have U2 := hide (fun w1 (hb : Below W.heap.size W w1) => (hb.cell (p := ⟨p, po + 4 + 2, none⟩) hp).trans e12)
  have U3 := hide (fun w1 (hb : Below W.heap.size W w1) => (hb.cell (p := ⟨p, po + 4 + 3, none⟩) hp).trans e13)
  clear hg xl ht hr hz hz2 ih e04 e14 e10 e11 e12 e13 hp
  generalize hDD : ((d + 1 : Nat) : Int) = DD at *
  go_enter Tryd.func45, Tryd.ntmps45
  go_wp2_with fail
  refine (unhide IH).mono ?_
  rintro r w1 ⟨v, rfl, hv, hb1⟩
  have HB1 := hide hb1
  have BB := hide ((unhide B0).trans (hb1.mono (unhide B0).size))
  have z0 := unhide Y0 w1 hb1
  have z3 := unhide Y3 w1 hb1
  have u0 := unhide U0 w1 hb1
  have u1 := unhide U1 w1 hb1
  have u2 := unhide U2 w1 hb1
  have u3 := unhide U3 w1 hb1
  have HV := hide hv
  have J2 := hide (unhide IH2 w1 hb1)
  generalize okF d false a = q at *
  clear hv hb1 U0 U1 U2 U3 IH IH2 x0 x1 x2 x3 e00 e01 e02 e03
  cases q with
  | false =>
    have F2 := hide (fun r w' v => unhide FN r w' v false (by rw [Bool.false_and, Bool.and_false]))
    clear FN
    go_wp2
    (try go_ret2)
    exact unhide F2 _ _ _ rfl (fun h => by cases h) (unhide BB)
  | true =>
    obtain ⟨t1, x1, e1⟩ := tv_if a
    have hve := unhide HV rfl
    rw [e1] at hve TV
    subst hve
    clear HV e1
    go_wp2_with fail
    refine (unhide J2).mono ?_
    rintro r w2 ⟨v2, rfl, hv2, hb2⟩
    have HB2 := hide ((unhide HB1).trans (hb2.mono (unhide HB1).size))
    have B2 := hide ((unhide BB).trans (hb2.mono (unhide BB).size))
    have t0 := unhide Y0 w2 (unhide HB2)
    have HV2 := hide hv2
    generalize okF d false a2 = q2 at *
    clear hv2 hb2 u0 u1 u2 u3 z0 z3 Y0 Y3 J2
    cases q2 with
    | false =>
      have F2 := hide (fun r w' v => unhide FN r w' v false (Bool.and_false _))
      clear FN
      go_wp2
      (try go_ret2)
      exact unhide F2 _ _ _ rfl (fun h => by cases h) (unhide B2)
    | true =>
      obtain ⟨t2, x2, e2⟩ := tv_if a2
      have hve := unhide HV2 rfl
      rw [e2] at hve TV
      subst hve
      clear HV2 e2
      have F2 := hide (fun r w' v q (h : inB k 5 10 = q) => unhide FN r w' v q ((Bool.and_true _).trans h))
      have P2 := hide (pair_any k (.iface t1 x1) (.iface t2 x2) w2)
      clear FN
      go_wp2_with fail
      refine (unhide P2).mono ?_
      rintro r w3 ⟨x, rfl, hx, hb3⟩
      have F3 := hide (unhide F2 (.returned (.tuple #[x, .bool (inB k 5 10)])) w3 x _ rfl rfl (fun h => by rw [hx h, unhide TV h]) ((unhide B2).trans (hb3.mono (unhide B2).size)))
      generalize inB k 5 10 = qq at *
      clear F2 hx hb3 P2
      go_wp2
      (try go_ret2)
      exact unhide F3
theorem term_all : ∀ d : Nat, d ≤ 6 → TermP d := by
  intro d
  induction d with
  | zero => intro _; exact term_zero
  | succ d ih =>
    intro hd e b cap w hr hz ht
    obtain ⟨k, n, s, l⟩ := e
    have hsz := sz_is ⟨k, n, s, l⟩
    simp only at hsz
    unfold Ex.cs
    simp only
    by_cases hbad : 1 ≤ l.length ∧ (3 ≤ l.length ∨ n ≠ 0 ∨ s ≠ E0)
    · exact term_bad d (by omega) k n s l b cap w (by omega) hbad.1 hbad.2
    · match l, hr, hz, hsz, hbad with
      | [], hr, hz, hsz, hbad => exact term_nil d (by omega) k n s b cap w (by omega) ht
      | [a], hr, hz, hsz, hbad =>
        have hn : n = 0 := Classical.byContradiction fun h => hbad ⟨by simp, .inr (.inl h)⟩
        have hs : s = E0 := Classical.byContradiction fun h => hbad ⟨by simp, .inr (.inr h)⟩
        subst hn hs
        exact term_one d (by omega) (ih (by omega)) k a b cap w hr (by simp [szX] at hsz; omega) ht
      | [a, a2], hr, hz, hsz, hbad =>
        have hn : n = 0 := Classical.byContradiction fun h => hbad ⟨by simp, .inr (.inl h)⟩
        have hs : s = E0 := Classical.byContradiction fun h => hbad ⟨by simp, .inr (.inr h)⟩
        subst hn hs
        exact term_two d (by omega) (ih (by omega)) k a a2 b cap w hr (by simp [szX] at hsz; omega) (by simp [szX] at hsz; omega) ht
      | a :: a2 :: a3 :: r, hr, hz, hsz, hbad => exact absurd ⟨by simp, .inl (by simp)⟩ hbad
end Go.Proofs.YtkolflcjkofleaaDoor

namespace Go.Proofs.YtkolflcjkofleaaDoor
open Go.ChangeShapes Go.WideShapes Go.ChangeAt Go.RowKit
set_option linter.unusedVariables false
set_option maxRecDepth 8000
set_option linter.unusedSimpArgs false

set_option maxHeartbeats 1000000 in
theorem okI_any (e : Ex) (b : Option Addr) (cap : Nat) (w : World) (hr : RdX w 0 e b) (hz : e.sz ≤ 1048576) (ht : TabK w) : Calls Tryd.prog 17 #[.agg (e.cs b cap)] w fun r w' => r = .returned (.bool (okF 6 false e)) ∧ Below w.heap.size w w' := by
  have B0 := below_new w (.cells (e.cs b cap) 26)
  have HH := hide (term_all 6 (by omega) e b cap _ (hr.later B0) hz (ht.next B0))
  have HB := hide B0
  clear hr B0 ht
  unfold TermR at HH
  generalize okF 6 false e = q at *
  unfold Ex.cs at HH HB ⊢
  generalize e.l.length = ll at *
  go_enter Tryd.func17, Tryd.ntmps17
  go_wp2_with fail
  refine (unhide HH).mono ?_
  rintro r w1 ⟨v, rfl, _, hb1⟩
  have BB := hide ((unhide HB).trans (hb1.mono (unhide HB).size))
  clear hb1 HH HB
  go_wp2
  go_ret
  exact ⟨rfl, unhide BB⟩
/-- The forms of a right term. -/
theorem ok_cases {d : Nat} {e : Ex} (h : okF (d + 1) false e = true) : (∃ n : Int, (0 ≤ n ∧ n ≤ 65535) ∧ e = ⟨1, n, E0, []⟩) ∨ (∃ s, nameB s = true ∧ e = ⟨2, 0, s, []⟩) ∨ e = ⟨3, 0, E0, []⟩ ∨ (∃ a, okF d false a = true ∧ e = ⟨4, 0, E0, [a]⟩) ∨ (∃ k a b, (5 ≤ k ∧ k ≤ 10) ∧ okF d false a = true ∧ okF d false b = true ∧ e = ⟨k, 0, E0, [a, b]⟩) ∨ (∃ n : Int, (0 ≤ n ∧ n ≤ 9) ∧ e = ⟨11, n, E0, []⟩) ∨ (∃ s, nameB s = true ∧ e = ⟨12, 0, s, []⟩) := by
  obtain ⟨k, n, s, l⟩ := e
  rw [okf_v, Bool.and_eq_true] at h
  obtain ⟨h1, h2⟩ := h
  match l, h1, h2 with
  | [], h1, _ =>
    have hn : k ≠ 1 → k ≠ 11 → n = 0 := fun g1 g2 => Classical.byContradiction fun hn => by
      unfold hereV Ex.here at h1
      rw [if_pos (by simp [g1, g2, hn])] at h1
      cases h1
    have hs : k ≠ 2 → k ≠ 12 → s = E0 := fun g1 g2 => Classical.byContradiction fun hn => by
      have es := (emp_E s hn).2
      unfold hereV Ex.here at h1
      rw [if_pos (by simp [g1, g2, es])] at h1
      cases h1
    by_cases k1 : k = 1
    · subst k1
      obtain rfl := hs (by decide) (by decide)
      rw [show hereV 1 n E0 ([] : List Ex).length = inB n 0 65535 by simp [hereV, Ex.here, eqE]] at h1
      exact .inl ⟨n, (inB_iff _ _ _).1 h1, rfl⟩
    by_cases k2 : k = 2
    · subst k2
      obtain rfl := hn (by decide) (by decide)
      rw [show hereV 2 0 s ([] : List Ex).length = nameB s by simp [hereV, Ex.here]] at h1
      exact .inr (.inl ⟨s, h1, rfl⟩)
    by_cases k11 : k = 11
    · subst k11
      obtain rfl := hs (by decide) (by decide)
      rw [show hereV 11 n E0 ([] : List Ex).length = inB n 0 9 by simp [hereV, Ex.here, eqE]] at h1
      exact .inr (.inr (.inr (.inr (.inr (.inl ⟨n, (inB_iff _ _ _).1 h1, rfl⟩)))))
    by_cases k12 : k = 12
    · subst k12
      obtain rfl := hn (by decide) (by decide)
      rw [show hereV 12 0 s ([] : List Ex).length = nameB s by simp [hereV, Ex.here]] at h1
      exact .inr (.inr (.inr (.inr (.inr (.inr ⟨s, h1, rfl⟩)))))
    obtain rfl := hn k1 k11
    obtain rfl := hs k2 k12
    by_cases k3 : k = 3
    · subst k3; exact .inr (.inr (.inl rfl))
    exfalso
    unfold hereV Ex.here at h1
    simp only [List.length_replicate, List.length_nil] at h1
    rw [if_neg (by simp [eqE]), if_neg k1, if_neg (by omega), if_neg k3] at h1
    repeat' (split at h1)
    all_goals first | cases h1 | exact absurd h1 (by decide) | omega
  | [a], h1, h2 =>
    have hn : n = 0 := Classical.byContradiction fun hn => by rw [hereV_n k n s _ (by simp) hn] at h1; cases h1
    have hs : s = E0 := Classical.byContradiction fun hn => by rw [hereV_s k n s _ (by simp) hn] at h1; cases h1
    subst hn hs
    have h3 : hereV k 0 ⟨#[]⟩ 1 = true := h1
    rw [here_one, beq_iff_eq] at h3
    subst h3
    exact .inr (.inr (.inr (.inl ⟨a, by simpa using h2, rfl⟩)))
  | [a, b], h1, h2 =>
    have hn : n = 0 := Classical.byContradiction fun hn => by rw [hereV_n k n s _ (by simp) hn] at h1; cases h1
    have hs : s = E0 := Classical.byContradiction fun hn => by rw [hereV_s k n s _ (by simp) hn] at h1; cases h1
    subst hn hs
    have h3 : hereV k 0 ⟨#[]⟩ 2 = true := h1
    rw [here_two] at h3
    have h4 : okF d false a = true ∧ okF d false b = true := by simpa using h2
    exact .inr (.inr (.inr (.inr (.inl ⟨k, a, b, (inB_iff _ _ _).1 h3, h4.1, h4.2, rfl⟩))))
  | a :: b :: c :: r, h1, _ => rw [here_more k n s _ (by simp)] at h1; cases h1
theorem plain_one (d : Nat) (a : Ex) : okF (d + 1) true ⟨4, 0, E0, [a]⟩ = okF d true a := by simp [okF, Ex.here, eqE]
theorem plain_pair (d : Nat) {k : Int} (hk : 5 ≤ k ∧ k ≤ 10) (a b : Ex) : okF (d + 1) true ⟨k, 0, E0, [a, b]⟩ = (okF d true a && okF d true b) := by
  have : k = 5 ∨ k = 6 ∨ k = 7 ∨ k = 8 ∨ k = 9 ∨ k = 10 := by omega
  rcases this with rfl | rfl | rfl | rfl | rfl | rfl <;> simp [okF, Ex.here, eqE]
end Go.Proofs.YtkolflcjkofleaaDoor

namespace Go.Proofs.YtkolflcjkofleaaDoor
open Go.ChangeShapes Go.WideShapes Go.ChangeAt Go.RowKit
set_option linter.unusedVariables false
set_option maxRecDepth 8000
set_option linter.unusedSimpArgs false

theorem ta_no {P : Program} {T u it : TypeId} {x z : Value} {fs : Array Field} (w : World) (hu : P.underlying u = some (.struct fs)) (hz : (zeroValue u).run P w = .ok z w) (h : T ≠ u) : (Instr.typeAssert (.iface T x) it u true).run P w = .ok (.tuple #[z, .bool false]) w := by
  simp [Instr.typeAssert, run_underlying hu, h, hz]
theorem taN_num (T : TypeId) (x : Value) (h : T ≠ 88) (w : World) : (Instr.typeAssert (.iface T x) 66 88 true).run Tryd.prog w = .ok (.tuple #[.agg #[.int .i64 0], .bool false]) w := ta_no w Tryd.underlying88 (by kernel_rfl) h
theorem taY_num (x : Value) (w : World) : (Instr.typeAssert (.iface 88 x) 66 88 true).run Tryd.prog w = .ok (.tuple #[x, .bool true]) w := by kernel_rfl
theorem taN_sym (T : TypeId) (x : Value) (h : T ≠ 117) (w : World) : (Instr.typeAssert (.iface T x) 66 117 true).run Tryd.prog w = .ok (.tuple #[.agg #[.string ⟨#[]⟩], .bool false]) w := ta_no w Tryd.underlying117 (by kernel_rfl) h
theorem taY_sym (x : Value) (w : World) : (Instr.typeAssert (.iface 117 x) 66 117 true).run Tryd.prog w = .ok (.tuple #[x, .bool true]) w := by kernel_rfl
theorem taN_here (T : TypeId) (x : Value) (h : T ≠ 130) (w : World) : (Instr.typeAssert (.iface T x) 66 130 true).run Tryd.prog w = .ok (.tuple #[.agg #[], .bool false]) w := ta_no w Tryd.underlying130 (by kernel_rfl) h
theorem taY_here (x : Value) (w : World) : (Instr.typeAssert (.iface 130 x) 66 130 true).run Tryd.prog w = .ok (.tuple #[x, .bool true]) w := by kernel_rfl
theorem taN_neg (T : TypeId) (x : Value) (h : T ≠ 104) (w : World) : (Instr.typeAssert (.iface T x) 66 104 true).run Tryd.prog w = .ok (.tuple #[.agg #[.nilIface], .bool false]) w := ta_no w Tryd.underlying104 (by kernel_rfl) h
theorem taY_neg (x : Value) (w : World) : (Instr.typeAssert (.iface 104 x) 66 104 true).run Tryd.prog w = .ok (.tuple #[x, .bool true]) w := by kernel_rfl
theorem taN_add (T : TypeId) (x : Value) (h : T ≠ 134) (w : World) : (Instr.typeAssert (.iface T x) 66 134 true).run Tryd.prog w = .ok (.tuple #[.agg #[.nilIface, .nilIface], .bool false]) w := ta_no w Tryd.underlying134 (by kernel_rfl) h
theorem taY_add (x : Value) (w : World) : (Instr.typeAssert (.iface 134 x) 66 134 true).run Tryd.prog w = .ok (.tuple #[x, .bool true]) w := by kernel_rfl
theorem taN_sub (T : TypeId) (x : Value) (h : T ≠ 135) (w : World) : (Instr.typeAssert (.iface T x) 66 135 true).run Tryd.prog w = .ok (.tuple #[.agg #[.nilIface, .nilIface], .bool false]) w := ta_no w Tryd.underlying135 (by kernel_rfl) h
theorem taY_sub (x : Value) (w : World) : (Instr.typeAssert (.iface 135 x) 66 135 true).run Tryd.prog w = .ok (.tuple #[x, .bool true]) w := by kernel_rfl
theorem taN_mul (T : TypeId) (x : Value) (h : T ≠ 136) (w : World) : (Instr.typeAssert (.iface T x) 66 136 true).run Tryd.prog w = .ok (.tuple #[.agg #[.nilIface, .nilIface], .bool false]) w := ta_no w Tryd.underlying136 (by kernel_rfl) h
theorem taY_mul (x : Value) (w : World) : (Instr.typeAssert (.iface 136 x) 66 136 true).run Tryd.prog w = .ok (.tuple #[x, .bool true]) w := by kernel_rfl
theorem taN_div (T : TypeId) (x : Value) (h : T ≠ 137) (w : World) : (Instr.typeAssert (.iface T x) 66 137 true).run Tryd.prog w = .ok (.tuple #[.agg #[.nilIface, .nilIface], .bool false]) w := ta_no w Tryd.underlying137 (by kernel_rfl) h
theorem taY_div (x : Value) (w : World) : (Instr.typeAssert (.iface 137 x) 66 137 true).run Tryd.prog w = .ok (.tuple #[x, .bool true]) w := by kernel_rfl
theorem taN_and (T : TypeId) (x : Value) (h : T ≠ 138) (w : World) : (Instr.typeAssert (.iface T x) 66 138 true).run Tryd.prog w = .ok (.tuple #[.agg #[.nilIface, .nilIface], .bool false]) w := ta_no w Tryd.underlying138 (by kernel_rfl) h
theorem taY_and (x : Value) (w : World) : (Instr.typeAssert (.iface 138 x) 66 138 true).run Tryd.prog w = .ok (.tuple #[x, .bool true]) w := by kernel_rfl
theorem taN_or (T : TypeId) (x : Value) (h : T ≠ 139) (w : World) : (Instr.typeAssert (.iface T x) 66 139 true).run Tryd.prog w = .ok (.tuple #[.agg #[.nilIface, .nilIface], .bool false]) w := ta_no w Tryd.underlying139 (by kernel_rfl) h
theorem taY_or (x : Value) (w : World) : (Instr.typeAssert (.iface 139 x) 66 139 true).run Tryd.prog w = .ok (.tuple #[x, .bool true]) w := by kernel_rfl
theorem taN_sect (T : TypeId) (x : Value) (h : T ≠ 115) (w : World) : (Instr.typeAssert (.iface T x) 66 115 true).run Tryd.prog w = .ok (.tuple #[.agg #[.int .i64 0], .bool false]) w := ta_no w Tryd.underlying115 (by kernel_rfl) h
theorem taY_sect (x : Value) (w : World) : (Instr.typeAssert (.iface 115 x) 66 115 true).run Tryd.prog w = .ok (.tuple #[x, .bool true]) w := by kernel_rfl
theorem taN_glob (T : TypeId) (x : Value) (h : T ≠ 118) (w : World) : (Instr.typeAssert (.iface T x) 66 118 true).run Tryd.prog w = .ok (.tuple #[.agg #[.string ⟨#[]⟩], .bool false]) w := ta_no w Tryd.underlying118 (by kernel_rfl) h
theorem taY_glob (x : Value) (w : World) : (Instr.typeAssert (.iface 118 x) 66 118 true).run Tryd.prog w = .ok (.tuple #[x, .bool true]) w := by kernel_rfl
theorem me_num (c : Value) (w : World) : (method 271 88 (.agg #[c]) "loop.example/g00329/impl.parts").run Tryd.prog w = .ok (121, .agg #[]) w := by kernel_rfl
theorem me_sym (c : Value) (w : World) : (method 271 117 (.agg #[c]) "loop.example/g00329/impl.parts").run Tryd.prog w = .ok (121, .agg #[]) w := by kernel_rfl
theorem me_sect (c : Value) (w : World) : (method 271 115 (.agg #[c]) "loop.example/g00329/impl.parts").run Tryd.prog w = .ok (121, .agg #[]) w := by kernel_rfl
theorem me_glob (c : Value) (w : World) : (method 271 118 (.agg #[c]) "loop.example/g00329/impl.parts").run Tryd.prog w = .ok (121, .agg #[]) w := by kernel_rfl
theorem me_here (w : World) : (method 271 130 (.agg #[]) "loop.example/g00329/impl.parts").run Tryd.prog w = .ok (121, .agg #[]) w := by kernel_rfl
theorem me_neg (c : Value) (w : World) : (method 271 104 (.agg #[c]) "loop.example/g00329/impl.parts").run Tryd.prog w = .ok (122, .agg #[c]) w := by kernel_rfl
theorem me_add (c d : Value) (w : World) : (method 271 134 (.agg #[c, d]) "loop.example/g00329/impl.parts").run Tryd.prog w = .ok (123, .agg #[c, d]) w := by kernel_rfl
theorem me_sub (c d : Value) (w : World) : (method 271 135 (.agg #[c, d]) "loop.example/g00329/impl.parts").run Tryd.prog w = .ok (123, .agg #[c, d]) w := by kernel_rfl
theorem me_mul (c d : Value) (w : World) : (method 271 136 (.agg #[c, d]) "loop.example/g00329/impl.parts").run Tryd.prog w = .ok (123, .agg #[c, d]) w := by kernel_rfl
theorem me_div (c d : Value) (w : World) : (method 271 137 (.agg #[c, d]) "loop.example/g00329/impl.parts").run Tryd.prog w = .ok (123, .agg #[c, d]) w := by kernel_rfl
theorem me_and (c d : Value) (w : World) : (method 271 138 (.agg #[c, d]) "loop.example/g00329/impl.parts").run Tryd.prog w = .ok (123, .agg #[c, d]) w := by kernel_rfl
theorem me_or (c d : Value) (w : World) : (method 271 139 (.agg #[c, d]) "loop.example/g00329/impl.parts").run Tryd.prog w = .ok (123, .agg #[c, d]) w := by kernel_rfl
set_option maxHeartbeats 1000000 in
theorem parts0 (w : World) : Calls Tryd.prog 121 #[.agg #[]] w fun r w' => r = .returned (.slice none 0 0) ∧ Below w.heap.size w w' := by
  go_enter Tryd.func121, Tryd.ntmps121
  go_wp2
  go_ret
  exact ⟨rfl, by first | exact Below.refl _ _ | exact below_new w _⟩
theorem two_new (w : World) (o1 o2 : Obj) : ((w.alloc o1).alloc o2).heap[w.heap.size + 1]? = some o2 ∧ Below w.heap.size w ((w.alloc o1).alloc o2) := by
  have h1 : (w.alloc o1).heap.size = w.heap.size + 1 := by simp
  refine ⟨?_, ((Below.refl _ _).alloc (Nat.le_refl _) _).alloc (by simp) _⟩
  rw [← h1]
  exact Array.getElem?_push_size
set_option maxHeartbeats 1000000 in
theorem parts1 (t : TypeId) (x : Value) (w : World) : Calls Tryd.prog 122 #[.agg #[.iface t x]] w fun r w' => ∃ g, r = .returned (.slice (some ⟨g, 0, none⟩) 1 1) ∧ w'.heap[g]? = some (.cells #[.iface t x] 66 (0, 0)) ∧ Below w.heap.size w w' := by
  have T := hide (two_new w (.cells #[.iface t x] 104) (.cells #[.iface t x] 66))
  go_enter Tryd.func122, Tryd.ntmps122
  go_wp2
  go_ret
  exact ⟨_, rfl, (unhide T).1, (unhide T).2⟩
set_option maxHeartbeats 1000000 in
theorem parts2 (t u : TypeId) (x y : Value) (w : World) : Calls Tryd.prog 123 #[.agg #[.iface t x, .iface u y]] w fun r w' => ∃ g, r = .returned (.slice (some ⟨g, 0, none⟩) 2 2) ∧ w'.heap[g]? = some (.cells #[.iface t x, .iface u y] 66 (0, 0)) ∧ Below w.heap.size w w' := by
  have T := hide (two_new w (.cells #[.iface t x, .iface u y] 107) (.cells #[.iface t x, .iface u y] 66))
  go_enter Tryd.func123, Tryd.ntmps123
  go_wp2
  go_ret
  exact ⟨_, rfl, (unhide T).1, (unhide T).2⟩
end Go.Proofs.YtkolflcjkofleaaDoor
