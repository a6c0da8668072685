/- The program's terms as values: a leaf, two of them; over this seat's translation; conditions stand as hypotheses of each. -/
import Derived.Test.YthgbpofcfmnpdaaDoorExJ
import Derived.Test.YthgbpofcfmnpdaaDoorSubT
import Derived.Test.YthgbpofcfmnpdaaDoorLxE
namespace Go.Proofs.YthgbpofcfmnpdaaDoor
open Go.ChangeShapes Go.WideShapes Go.ChangeAt Go.RowKit
set_option linter.unusedVariables false
set_option maxRecDepth 8000
set_option linter.unusedSimpArgs false

/-- The type of a kind of those of two. -/
def pairT (k : Int) : TypeId := if k = 5 then 145 else if k = 6 then 146 else if k = 7 then 147 else if k = 8 then 148 else if k = 9 then 149 else 150
/-- A term's value in the program, by the values of its parts. -/
def tvC (k n : Int) (s : ByteArray) (vs : List Value) : Value :=
  if k = 1 then .iface 130 (.agg #[.int .i64 n]) else if k = 2 then .iface 131 (.agg #[.string s]) else if k = 3 then .iface 133 (.agg #[])
  else if k = 4 then .iface 119 (.agg vs.toArray) else if k = 11 then .iface 125 (.agg #[.int .i64 n]) else if k = 12 then .iface 127 (.agg #[.string s]) else .iface (pairT k) (.agg vs.toArray)
def tv : Ex → Value
  | ⟨k, n, s, l⟩ => tvC k n s (l.map tv)
theorem tv_num (n : Int) (s : ByteArray) : tv ⟨1, n, s, []⟩ = .iface 130 (.agg #[.int .i64 n]) := by rw [tv]; rfl
theorem tv_sym (n : Int) (s : ByteArray) : tv ⟨2, n, s, []⟩ = .iface 131 (.agg #[.string s]) := by rw [tv]; rfl
theorem tv_here (n : Int) (s : ByteArray) : tv ⟨3, n, s, []⟩ = .iface 133 (.agg #[]) := by rw [tv]; rfl
theorem tv_neg (n : Int) (s : ByteArray) (a : Ex) : tv ⟨4, n, s, [a]⟩ = .iface 119 (.agg #[tv a]) := by rw [tv]; rfl
theorem tv_sect (n : Int) (s : ByteArray) : tv ⟨11, n, s, []⟩ = .iface 125 (.agg #[.int .i64 n]) := by rw [tv]; rfl
theorem tv_glob (n : Int) (s : ByteArray) : tv ⟨12, n, s, []⟩ = .iface 127 (.agg #[.string s]) := by rw [tv]; rfl
theorem tv_two {k : Int} (hk : 5 ≤ k ∧ k ≤ 10) (n : Int) (s : ByteArray) (a b : Ex) : tv ⟨k, n, s, [a, b]⟩ = .iface (pairT k) (.agg #[tv a, tv b]) := by
  rw [tv]
  unfold tvC
  rw [if_neg (by omega), if_neg (by omega), if_neg (by omega), if_neg (by omega), if_neg (by omega), if_neg (by omega)]
  rfl
/-- What leafOf answers. -/
def LeafR (k n : Int) (s : ByteArray) (w : World) (r : Ending) (w' : World) : Prop := ∃ v, r = .returned (.tuple #[v, .bool (hereV k n s 0)]) ∧ (hereV k n s 0 = true → v = tvC k n s []) ∧ Below w.heap.size w w'
def LeafG (k n : Int) (s : ByteArray) : Prop := ∀ (b : Option Addr) (ll cap : Nat) (w : World), TabK w → Calls Tryd.prog 95 #[.agg #[.int .i64 k, .int .i64 n, .string s, .slice b ll cap]] w (LeafR k n s w)
theorem nil_val {r : Ending} {k n : Int} {s : ByteArray} {w w' : World} {v : Value} {q : Bool} (h : hereV k n s 0 = q) (hr : r = .returned (.tuple #[v, .bool q])) (hv : q = true → v = tvC k n s []) (hb : Below w.heap.size w w') : LeafR k n s w r w' := ⟨v, by rw [h]; exact hr, fun e => hv (by rw [← h]; exact e), hb⟩
set_option maxHeartbeats 2000000 in
theorem leaf1_0 (n : Int) (s : ByteArray) : LeafG 1 n ⟨#[]⟩ := by
  intro b ll cap w ht
  obtain ⟨W, hW⟩ : ∃ W, w.alloc (.cells #[.int .i64 1, .int .i64 n, .string ⟨#[]⟩, .slice b ll cap] 37) = W := ⟨_, rfl⟩
  have B0 := hide (below_new w (.cells #[.int .i64 1, .int .i64 n, .string ⟨#[]⟩, .slice b ll cap] 37))
  have hg : W.heap[w.heap.size]? = some (.cells #[.int .i64 1, .int .i64 n, .string ⟨#[]⟩, .slice b ll cap] 37 (0, 0)) := by rw [← hW]; exact Array.getElem?_push_size
  rw [hW] at B0
  have x0 := Lib.cell_of_heap hg 0
  have x1 := Lib.cell_of_heap hg 1
  have x2 := Lib.cell_of_heap hg 2
  have xl : w.heap.size < W.heap.size := (Array.getElem?_eq_some_iff.1 hg).1
  have y0 : ∀ y : Sub W.heap.size W, y.w.cell? ⟨w.heap.size, 0, none⟩ = some (.int .i64 1) := fun y => (y.h.cell (p := ⟨w.heap.size, _, none⟩) xl).trans x0
  have y1 : ∀ y : Sub W.heap.size W, y.w.cell? ⟨w.heap.size, 1, none⟩ = some (.int .i64 n) := fun y => (y.h.cell (p := ⟨w.heap.size, _, none⟩) xl).trans x1
  have y2 : ∀ y : Sub W.heap.size W, y.w.cell? ⟨w.heap.size, 2, none⟩ = some (.string ⟨#[]⟩) := fun y => (y.h.cell (p := ⟨w.heap.size, _, none⟩) xl).trans x2
  have ne := Sub.ne W.heap.size W
  have HZ := hide (Nat.le_refl W.heap.size)
  have TB := hide (fun y : Sub W.heap.size W => (ht.next (unhide B0)).next y.h)
  have HB := hide (fun y : Sub W.heap.size W => (unhide B0).trans (y.h.mono (unhide B0).size))
  clear hg xl ht
  have V := hide (show hereV 1 n ⟨#[]⟩ 0 = inB n 0 65535 by simp [hereV, Ex.here, eqE, eqE1, *])
  have FN := hide (fun r w' (v : Value) => nil_val (r := r) (w := w) (w' := w') (v := v) (unhide V))
  have Q := hide (fun y : Sub W.heap.size W => isWord_any n y.w)
  generalize inB n 0 65535 = q at *
  generalize LeafR 1 n ⟨#[]⟩ w = R at *
  cases q <;> (go_enter Tryd.func95, Tryd.ntmps95; go_wp2_with fail; refine wp_region_sub (⟨W, Below.refl _ _⟩ : Sub W.heap.size W) (by kernel_rfl) (by kernel_rfl) ?_; (repeat (go_big_quiet_step (first | (go_at_call 56; exact Sub.same (unhide Q _))))); refine wpQuiet_nil ?_; intro y; go_wp2; (try go_ret2); exact unhide FN _ _ _ rfl (fun h => by first | rfl | cases h) (unhide HB _))
set_option maxHeartbeats 2000000 in
theorem leaf1_s (n : Int) (s : ByteArray) (h : s ≠ E0) : LeafG 1 n s := by
  intro b ll cap w ht
  obtain ⟨W, hW⟩ : ∃ W, w.alloc (.cells #[.int .i64 1, .int .i64 n, .string s, .slice b ll cap] 37) = W := ⟨_, rfl⟩
  have B0 := hide (below_new w (.cells #[.int .i64 1, .int .i64 n, .string s, .slice b ll cap] 37))
  have hg : W.heap[w.heap.size]? = some (.cells #[.int .i64 1, .int .i64 n, .string s, .slice b ll cap] 37 (0, 0)) := by rw [← hW]; exact Array.getElem?_push_size
  rw [hW] at B0
  have x0 := Lib.cell_of_heap hg 0
  have x1 := Lib.cell_of_heap hg 1
  have x2 := Lib.cell_of_heap hg 2
  have xl : w.heap.size < W.heap.size := (Array.getElem?_eq_some_iff.1 hg).1
  have y0 : ∀ y : Sub W.heap.size W, y.w.cell? ⟨w.heap.size, 0, none⟩ = some (.int .i64 1) := fun y => (y.h.cell (p := ⟨w.heap.size, _, none⟩) xl).trans x0
  have y1 : ∀ y : Sub W.heap.size W, y.w.cell? ⟨w.heap.size, 1, none⟩ = some (.int .i64 n) := fun y => (y.h.cell (p := ⟨w.heap.size, _, none⟩) xl).trans x1
  have y2 : ∀ y : Sub W.heap.size W, y.w.cell? ⟨w.heap.size, 2, none⟩ = some (.string s) := fun y => (y.h.cell (p := ⟨w.heap.size, _, none⟩) xl).trans x2
  have ne := Sub.ne W.heap.size W
  have HZ := hide (Nat.le_refl W.heap.size)
  have TB := hide (fun y : Sub W.heap.size W => (ht.next (unhide B0)).next y.h)
  have HB := hide (fun y : Sub W.heap.size W => (unhide B0).trans (y.h.mono (unhide B0).size))
  clear hg xl ht
  obtain ⟨h1, h2⟩ := emp_E s h
  have V := hide (show hereV 1 n s 0 = false by simp [hereV, Ex.here, eqE, eqE1, *])
  have FN := hide (fun r w' (v : Value) => nil_val (r := r) (w := w) (w' := w') (v := v) (unhide V))
  have Q := hide (fun y : Sub W.heap.size W => isWord_any n y.w)
  generalize inB n 0 65535 = q at *
  generalize LeafR 1 n s w = R at *
  cases q <;> (go_enter Tryd.func95, Tryd.ntmps95; go_wp2_with fail; refine wp_region_sub (⟨W, Below.refl _ _⟩ : Sub W.heap.size W) (by kernel_rfl) (by kernel_rfl) ?_; (repeat (go_big_quiet_step (first | (go_at_call 56; exact Sub.same (unhide Q _))))); refine wpQuiet_nil ?_; intro y; go_wp2; (try go_ret2); exact unhide FN _ _ _ rfl (fun h => by first | rfl | cases h) (unhide HB _))
set_option maxHeartbeats 2000000 in
theorem leaf2_0 (n : Int) (s : ByteArray) (hs : s.size ≤ 1099511627776) : LeafG 2 0 s := by
  intro b ll cap w ht
  obtain ⟨W, hW⟩ : ∃ W, w.alloc (.cells #[.int .i64 2, .int .i64 0, .string s, .slice b ll cap] 37) = W := ⟨_, rfl⟩
  have B0 := hide (below_new w (.cells #[.int .i64 2, .int .i64 0, .string s, .slice b ll cap] 37))
  have hg : W.heap[w.heap.size]? = some (.cells #[.int .i64 2, .int .i64 0, .string s, .slice b ll cap] 37 (0, 0)) := by rw [← hW]; exact Array.getElem?_push_size
  rw [hW] at B0
  have x0 := Lib.cell_of_heap hg 0
  have x1 := Lib.cell_of_heap hg 1
  have x2 := Lib.cell_of_heap hg 2
  have xl : w.heap.size < W.heap.size := (Array.getElem?_eq_some_iff.1 hg).1
  have y0 : ∀ y : Sub W.heap.size W, y.w.cell? ⟨w.heap.size, 0, none⟩ = some (.int .i64 2) := fun y => (y.h.cell (p := ⟨w.heap.size, _, none⟩) xl).trans x0
  have y1 : ∀ y : Sub W.heap.size W, y.w.cell? ⟨w.heap.size, 1, none⟩ = some (.int .i64 0) := fun y => (y.h.cell (p := ⟨w.heap.size, _, none⟩) xl).trans x1
  have y2 : ∀ y : Sub W.heap.size W, y.w.cell? ⟨w.heap.size, 2, none⟩ = some (.string s) := fun y => (y.h.cell (p := ⟨w.heap.size, _, none⟩) xl).trans x2
  have ne := Sub.ne W.heap.size W
  have HZ := hide (Nat.le_refl W.heap.size)
  have TB := hide (fun y : Sub W.heap.size W => (ht.next (unhide B0)).next y.h)
  have HB := hide (fun y : Sub W.heap.size W => (unhide B0).trans (y.h.mono (unhide B0).size))
  clear hg xl ht
  have V := hide (show hereV 2 0 s 0 = nameB s by simp [hereV, Ex.here, eqE, eqE1, *])
  have FN := hide (fun r w' (v : Value) => nil_val (r := r) (w := w) (w' := w') (v := v) (unhide V))
  have Q := hide (fun y : Sub W.heap.size W => nameI_any s y.w hs (unhide TB y))
  generalize nameB s = q at *
  generalize LeafR 2 0 s w = R at *
  cases q <;> (go_enter Tryd.func95, Tryd.ntmps95; go_wp2_with fail; refine wp_region_sub (⟨W, Below.refl _ _⟩ : Sub W.heap.size W) (by kernel_rfl) (by kernel_rfl) ?_; (repeat (go_big_quiet_step (first | (go_at_call 57; exact Sub.same (unhide Q _))))); refine wpQuiet_nil ?_; intro y; go_wp2; (try go_ret2); exact unhide FN _ _ _ rfl (fun h => by first | rfl | cases h) (unhide HB _))
set_option maxHeartbeats 2000000 in
theorem leaf2_n (n : Int) (s : ByteArray) (h : n ≠ 0) (hs : s.size ≤ 1099511627776) : LeafG 2 n s := by
  intro b ll cap w ht
  obtain ⟨W, hW⟩ : ∃ W, w.alloc (.cells #[.int .i64 2, .int .i64 n, .string s, .slice b ll cap] 37) = W := ⟨_, rfl⟩
  have B0 := hide (below_new w (.cells #[.int .i64 2, .int .i64 n, .string s, .slice b ll cap] 37))
  have hg : W.heap[w.heap.size]? = some (.cells #[.int .i64 2, .int .i64 n, .string s, .slice b ll cap] 37 (0, 0)) := by rw [← hW]; exact Array.getElem?_push_size
  rw [hW] at B0
  have x0 := Lib.cell_of_heap hg 0
  have x1 := Lib.cell_of_heap hg 1
  have x2 := Lib.cell_of_heap hg 2
  have xl : w.heap.size < W.heap.size := (Array.getElem?_eq_some_iff.1 hg).1
  have y0 : ∀ y : Sub W.heap.size W, y.w.cell? ⟨w.heap.size, 0, none⟩ = some (.int .i64 2) := fun y => (y.h.cell (p := ⟨w.heap.size, _, none⟩) xl).trans x0
  have y1 : ∀ y : Sub W.heap.size W, y.w.cell? ⟨w.heap.size, 1, none⟩ = some (.int .i64 n) := fun y => (y.h.cell (p := ⟨w.heap.size, _, none⟩) xl).trans x1
  have y2 : ∀ y : Sub W.heap.size W, y.w.cell? ⟨w.heap.size, 2, none⟩ = some (.string s) := fun y => (y.h.cell (p := ⟨w.heap.size, _, none⟩) xl).trans x2
  have ne := Sub.ne W.heap.size W
  have HZ := hide (Nat.le_refl W.heap.size)
  have TB := hide (fun y : Sub W.heap.size W => (ht.next (unhide B0)).next y.h)
  have HB := hide (fun y : Sub W.heap.size W => (unhide B0).trans (y.h.mono (unhide B0).size))
  clear hg xl ht
  have hn : (n == 0) = false := beq_eq_false_iff_ne.2 h
  have V := hide (show hereV 2 n s 0 = false by simp [hereV, Ex.here, eqE, eqE1, *])
  have FN := hide (fun r w' (v : Value) => nil_val (r := r) (w := w) (w' := w') (v := v) (unhide V))
  have Q := hide (fun y : Sub W.heap.size W => nameI_any s y.w hs (unhide TB y))
  generalize nameB s = q at *
  generalize LeafR 2 n s w = R at *
  cases q <;> (go_enter Tryd.func95, Tryd.ntmps95; go_wp2_with fail; refine wp_region_sub (⟨W, Below.refl _ _⟩ : Sub W.heap.size W) (by kernel_rfl) (by kernel_rfl) ?_; (repeat (go_big_quiet_step (first | (go_at_call 57; exact Sub.same (unhide Q _))))); refine wpQuiet_nil ?_; intro y; go_wp2; (try go_ret2); exact unhide FN _ _ _ rfl (fun h => by first | rfl | cases h) (unhide HB _))
set_option maxHeartbeats 2000000 in
theorem leaf12_0 (n : Int) (s : ByteArray) (hs : s.size ≤ 1099511627776) : LeafG 12 0 s := by
  intro b ll cap w ht
  obtain ⟨W, hW⟩ : ∃ W, w.alloc (.cells #[.int .i64 12, .int .i64 0, .string s, .slice b ll cap] 37) = W := ⟨_, rfl⟩
  have B0 := hide (below_new w (.cells #[.int .i64 12, .int .i64 0, .string s, .slice b ll cap] 37))
  have hg : W.heap[w.heap.size]? = some (.cells #[.int .i64 12, .int .i64 0, .string s, .slice b ll cap] 37 (0, 0)) := by rw [← hW]; exact Array.getElem?_push_size
  rw [hW] at B0
  have x0 := Lib.cell_of_heap hg 0
  have x1 := Lib.cell_of_heap hg 1
  have x2 := Lib.cell_of_heap hg 2
  have xl : w.heap.size < W.heap.size := (Array.getElem?_eq_some_iff.1 hg).1
  have y0 : ∀ y : Sub W.heap.size W, y.w.cell? ⟨w.heap.size, 0, none⟩ = some (.int .i64 12) := fun y => (y.h.cell (p := ⟨w.heap.size, _, none⟩) xl).trans x0
  have y1 : ∀ y : Sub W.heap.size W, y.w.cell? ⟨w.heap.size, 1, none⟩ = some (.int .i64 0) := fun y => (y.h.cell (p := ⟨w.heap.size, _, none⟩) xl).trans x1
  have y2 : ∀ y : Sub W.heap.size W, y.w.cell? ⟨w.heap.size, 2, none⟩ = some (.string s) := fun y => (y.h.cell (p := ⟨w.heap.size, _, none⟩) xl).trans x2
  have ne := Sub.ne W.heap.size W
  have HZ := hide (Nat.le_refl W.heap.size)
  have TB := hide (fun y : Sub W.heap.size W => (ht.next (unhide B0)).next y.h)
  have HB := hide (fun y : Sub W.heap.size W => (unhide B0).trans (y.h.mono (unhide B0).size))
  clear hg xl ht
  have V := hide (show hereV 12 0 s 0 = nameB s by simp [hereV, Ex.here, eqE, eqE1, *])
  have FN := hide (fun r w' (v : Value) => nil_val (r := r) (w := w) (w' := w') (v := v) (unhide V))
  have Q := hide (fun y : Sub W.heap.size W => nameI_any s y.w hs (unhide TB y))
  generalize nameB s = q at *
  generalize LeafR 12 0 s w = R at *
  cases q <;> (go_enter Tryd.func95, Tryd.ntmps95; go_wp2_with fail; refine wp_region_sub (⟨W, Below.refl _ _⟩ : Sub W.heap.size W) (by kernel_rfl) (by kernel_rfl) ?_; (repeat (go_big_quiet_step (first | (go_at_call 57; exact Sub.same (unhide Q _))))); refine wpQuiet_nil ?_; intro y; go_wp2; (try go_ret2); exact unhide FN _ _ _ rfl (fun h => by first | rfl | cases h) (unhide HB _))
set_option maxHeartbeats 2000000 in
theorem leaf12_n (n : Int) (s : ByteArray) (h : n ≠ 0) (hs : s.size ≤ 1099511627776) : LeafG 12 n s := by
  intro b ll cap w ht
  obtain ⟨W, hW⟩ : ∃ W, w.alloc (.cells #[.int .i64 12, .int .i64 n, .string s, .slice b ll cap] 37) = W := ⟨_, rfl⟩
  have B0 := hide (below_new w (.cells #[.int .i64 12, .int .i64 n, .string s, .slice b ll cap] 37))
  have hg : W.heap[w.heap.size]? = some (.cells #[.int .i64 12, .int .i64 n, .string s, .slice b ll cap] 37 (0, 0)) := by rw [← hW]; exact Array.getElem?_push_size
  rw [hW] at B0
  have x0 := Lib.cell_of_heap hg 0
  have x1 := Lib.cell_of_heap hg 1
  have x2 := Lib.cell_of_heap hg 2
  have xl : w.heap.size < W.heap.size := (Array.getElem?_eq_some_iff.1 hg).1
  have y0 : ∀ y : Sub W.heap.size W, y.w.cell? ⟨w.heap.size, 0, none⟩ = some (.int .i64 12) := fun y => (y.h.cell (p := ⟨w.heap.size, _, none⟩) xl).trans x0
  have y1 : ∀ y : Sub W.heap.size W, y.w.cell? ⟨w.heap.size, 1, none⟩ = some (.int .i64 n) := fun y => (y.h.cell (p := ⟨w.heap.size, _, none⟩) xl).trans x1
  have y2 : ∀ y : Sub W.heap.size W, y.w.cell? ⟨w.heap.size, 2, none⟩ = some (.string s) := fun y => (y.h.cell (p := ⟨w.heap.size, _, none⟩) xl).trans x2
  have ne := Sub.ne W.heap.size W
  have HZ := hide (Nat.le_refl W.heap.size)
  have TB := hide (fun y : Sub W.heap.size W => (ht.next (unhide B0)).next y.h)
  have HB := hide (fun y : Sub W.heap.size W => (unhide B0).trans (y.h.mono (unhide B0).size))
  clear hg xl ht
  have hn : (n == 0) = false := beq_eq_false_iff_ne.2 h
  have V := hide (show hereV 12 n s 0 = false by simp [hereV, Ex.here, eqE, eqE1, *])
  have FN := hide (fun r w' (v : Value) => nil_val (r := r) (w := w) (w' := w') (v := v) (unhide V))
  have Q := hide (fun y : Sub W.heap.size W => nameI_any s y.w hs (unhide TB y))
  generalize nameB s = q at *
  generalize LeafR 12 n s w = R at *
  cases q <;> (go_enter Tryd.func95, Tryd.ntmps95; go_wp2_with fail; refine wp_region_sub (⟨W, Below.refl _ _⟩ : Sub W.heap.size W) (by kernel_rfl) (by kernel_rfl) ?_; (repeat (go_big_quiet_step (first | (go_at_call 57; exact Sub.same (unhide Q _))))); refine wpQuiet_nil ?_; intro y; go_wp2; (try go_ret2); exact unhide FN _ _ _ rfl (fun h => by first | rfl | cases h) (unhide HB _))
set_option maxHeartbeats 2000000 in
theorem leaf3_0 (n : Int) (s : ByteArray) : LeafG 3 0 ⟨#[]⟩ := by
  intro b ll cap w ht
  obtain ⟨W, hW⟩ : ∃ W, w.alloc (.cells #[.int .i64 3, .int .i64 0, .string ⟨#[]⟩, .slice b ll cap] 37) = W := ⟨_, rfl⟩
  have B0 := hide (below_new w (.cells #[.int .i64 3, .int .i64 0, .string ⟨#[]⟩, .slice b ll cap] 37))
  have hg : W.heap[w.heap.size]? = some (.cells #[.int .i64 3, .int .i64 0, .string ⟨#[]⟩, .slice b ll cap] 37 (0, 0)) := by rw [← hW]; exact Array.getElem?_push_size
  rw [hW] at B0
  have x0 := Lib.cell_of_heap hg 0
  have x1 := Lib.cell_of_heap hg 1
  have x2 := Lib.cell_of_heap hg 2
  have xl : w.heap.size < W.heap.size := (Array.getElem?_eq_some_iff.1 hg).1
  have y0 : ∀ y : Sub W.heap.size W, y.w.cell? ⟨w.heap.size, 0, none⟩ = some (.int .i64 3) := fun y => (y.h.cell (p := ⟨w.heap.size, _, none⟩) xl).trans x0
  have y1 : ∀ y : Sub W.heap.size W, y.w.cell? ⟨w.heap.size, 1, none⟩ = some (.int .i64 0) := fun y => (y.h.cell (p := ⟨w.heap.size, _, none⟩) xl).trans x1
  have y2 : ∀ y : Sub W.heap.size W, y.w.cell? ⟨w.heap.size, 2, none⟩ = some (.string ⟨#[]⟩) := fun y => (y.h.cell (p := ⟨w.heap.size, _, none⟩) xl).trans x2
  have ne := Sub.ne W.heap.size W
  have HZ := hide (Nat.le_refl W.heap.size)
  have TB := hide (fun y : Sub W.heap.size W => (ht.next (unhide B0)).next y.h)
  have HB := hide (fun y : Sub W.heap.size W => (unhide B0).trans (y.h.mono (unhide B0).size))
  clear hg xl ht
  have V := hide (show hereV 3 0 ⟨#[]⟩ 0 = true by simp [hereV, Ex.here, eqE, eqE1, *])
  have FN := hide (fun r w' (v : Value) => nil_val (r := r) (w := w) (w' := w') (v := v) (unhide V))
  generalize LeafR 3 0 ⟨#[]⟩ w = R at *
  (go_enter Tryd.func95, Tryd.ntmps95; go_wp2_with fail; refine wp_region_sub (⟨W, Below.refl _ _⟩ : Sub W.heap.size W) (by kernel_rfl) (by kernel_rfl) ?_; (repeat (go_big_quiet_step (first | fail))); refine wpQuiet_nil ?_; intro y; go_wp2; (try go_ret2); exact unhide FN _ _ _ rfl (fun h => by first | rfl | cases h) (unhide HB _))
set_option maxHeartbeats 2000000 in
theorem leaf3_n (n : Int) (s : ByteArray) (h : n ≠ 0) : LeafG 3 n s := by
  intro b ll cap w ht
  obtain ⟨W, hW⟩ : ∃ W, w.alloc (.cells #[.int .i64 3, .int .i64 n, .string s, .slice b ll cap] 37) = W := ⟨_, rfl⟩
  have B0 := hide (below_new w (.cells #[.int .i64 3, .int .i64 n, .string s, .slice b ll cap] 37))
  have hg : W.heap[w.heap.size]? = some (.cells #[.int .i64 3, .int .i64 n, .string s, .slice b ll cap] 37 (0, 0)) := by rw [← hW]; exact Array.getElem?_push_size
  rw [hW] at B0
  have x0 := Lib.cell_of_heap hg 0
  have x1 := Lib.cell_of_heap hg 1
  have x2 := Lib.cell_of_heap hg 2
  have xl : w.heap.size < W.heap.size := (Array.getElem?_eq_some_iff.1 hg).1
  have y0 : ∀ y : Sub W.heap.size W, y.w.cell? ⟨w.heap.size, 0, none⟩ = some (.int .i64 3) := fun y => (y.h.cell (p := ⟨w.heap.size, _, none⟩) xl).trans x0
  have y1 : ∀ y : Sub W.heap.size W, y.w.cell? ⟨w.heap.size, 1, none⟩ = some (.int .i64 n) := fun y => (y.h.cell (p := ⟨w.heap.size, _, none⟩) xl).trans x1
  have y2 : ∀ y : Sub W.heap.size W, y.w.cell? ⟨w.heap.size, 2, none⟩ = some (.string s) := fun y => (y.h.cell (p := ⟨w.heap.size, _, none⟩) xl).trans x2
  have ne := Sub.ne W.heap.size W
  have HZ := hide (Nat.le_refl W.heap.size)
  have TB := hide (fun y : Sub W.heap.size W => (ht.next (unhide B0)).next y.h)
  have HB := hide (fun y : Sub W.heap.size W => (unhide B0).trans (y.h.mono (unhide B0).size))
  clear hg xl ht
  have hn : (n == 0) = false := beq_eq_false_iff_ne.2 h
  have V := hide (show hereV 3 n s 0 = false by simp [hereV, Ex.here, eqE, eqE1, *])
  have FN := hide (fun r w' (v : Value) => nil_val (r := r) (w := w) (w' := w') (v := v) (unhide V))
  generalize LeafR 3 n s w = R at *
  (go_enter Tryd.func95, Tryd.ntmps95; go_wp2_with fail; refine wp_region_sub (⟨W, Below.refl _ _⟩ : Sub W.heap.size W) (by kernel_rfl) (by kernel_rfl) ?_; (repeat (go_big_quiet_step (first | fail))); refine wpQuiet_nil ?_; intro y; go_wp2; (try go_ret2); exact unhide FN _ _ _ rfl (fun h => by first | rfl | cases h) (unhide HB _))
set_option maxHeartbeats 2000000 in
theorem leaf3_s (n : Int) (s : ByteArray) (h : s ≠ E0) : LeafG 3 0 s := by
  intro b ll cap w ht
  obtain ⟨W, hW⟩ : ∃ W, w.alloc (.cells #[.int .i64 3, .int .i64 0, .string s, .slice b ll cap] 37) = W := ⟨_, rfl⟩
  have B0 := hide (below_new w (.cells #[.int .i64 3, .int .i64 0, .string s, .slice b ll cap] 37))
  have hg : W.heap[w.heap.size]? = some (.cells #[.int .i64 3, .int .i64 0, .string s, .slice b ll cap] 37 (0, 0)) := by rw [← hW]; exact Array.getElem?_push_size
  rw [hW] at B0
  have x0 := Lib.cell_of_heap hg 0
  have x1 := Lib.cell_of_heap hg 1
  have x2 := Lib.cell_of_heap hg 2
  have xl : w.heap.size < W.heap.size := (Array.getElem?_eq_some_iff.1 hg).1
  have y0 : ∀ y : Sub W.heap.size W, y.w.cell? ⟨w.heap.size, 0, none⟩ = some (.int .i64 3) := fun y => (y.h.cell (p := ⟨w.heap.size, _, none⟩) xl).trans x0
  have y1 : ∀ y : Sub W.heap.size W, y.w.cell? ⟨w.heap.size, 1, none⟩ = some (.int .i64 0) := fun y => (y.h.cell (p := ⟨w.heap.size, _, none⟩) xl).trans x1
  have y2 : ∀ y : Sub W.heap.size W, y.w.cell? ⟨w.heap.size, 2, none⟩ = some (.string s) := fun y => (y.h.cell (p := ⟨w.heap.size, _, none⟩) xl).trans x2
  have ne := Sub.ne W.heap.size W
  have HZ := hide (Nat.le_refl W.heap.size)
  have TB := hide (fun y : Sub W.heap.size W => (ht.next (unhide B0)).next y.h)
  have HB := hide (fun y : Sub W.heap.size W => (unhide B0).trans (y.h.mono (unhide B0).size))
  clear hg xl ht
  obtain ⟨h1, h2⟩ := emp_E s h
  have V := hide (show hereV 3 0 s 0 = false by simp [hereV, Ex.here, eqE, eqE1, *])
  have FN := hide (fun r w' (v : Value) => nil_val (r := r) (w := w) (w' := w') (v := v) (unhide V))
  generalize LeafR 3 0 s w = R at *
  (go_enter Tryd.func95, Tryd.ntmps95; go_wp2_with fail; refine wp_region_sub (⟨W, Below.refl _ _⟩ : Sub W.heap.size W) (by kernel_rfl) (by kernel_rfl) ?_; (repeat (go_big_quiet_step (first | fail))); refine wpQuiet_nil ?_; intro y; go_wp2; (try go_ret2); exact unhide FN _ _ _ rfl (fun h => by first | rfl | cases h) (unhide HB _))
set_option maxHeartbeats 2000000 in
theorem leaf11_s (n : Int) (s : ByteArray) (h : s ≠ E0) : LeafG 11 n s := by
  intro b ll cap w ht
  obtain ⟨W, hW⟩ : ∃ W, w.alloc (.cells #[.int .i64 11, .int .i64 n, .string s, .slice b ll cap] 37) = W := ⟨_, rfl⟩
  have B0 := hide (below_new w (.cells #[.int .i64 11, .int .i64 n, .string s, .slice b ll cap] 37))
  have hg : W.heap[w.heap.size]? = some (.cells #[.int .i64 11, .int .i64 n, .string s, .slice b ll cap] 37 (0, 0)) := by rw [← hW]; exact Array.getElem?_push_size
  rw [hW] at B0
  have x0 := Lib.cell_of_heap hg 0
  have x1 := Lib.cell_of_heap hg 1
  have x2 := Lib.cell_of_heap hg 2
  have xl : w.heap.size < W.heap.size := (Array.getElem?_eq_some_iff.1 hg).1
  have y0 : ∀ y : Sub W.heap.size W, y.w.cell? ⟨w.heap.size, 0, none⟩ = some (.int .i64 11) := fun y => (y.h.cell (p := ⟨w.heap.size, _, none⟩) xl).trans x0
  have y1 : ∀ y : Sub W.heap.size W, y.w.cell? ⟨w.heap.size, 1, none⟩ = some (.int .i64 n) := fun y => (y.h.cell (p := ⟨w.heap.size, _, none⟩) xl).trans x1
  have y2 : ∀ y : Sub W.heap.size W, y.w.cell? ⟨w.heap.size, 2, none⟩ = some (.string s) := fun y => (y.h.cell (p := ⟨w.heap.size, _, none⟩) xl).trans x2
  have ne := Sub.ne W.heap.size W
  have HZ := hide (Nat.le_refl W.heap.size)
  have TB := hide (fun y : Sub W.heap.size W => (ht.next (unhide B0)).next y.h)
  have HB := hide (fun y : Sub W.heap.size W => (unhide B0).trans (y.h.mono (unhide B0).size))
  clear hg xl ht
  obtain ⟨h1, h2⟩ := emp_E s h
  have V := hide (show hereV 11 n s 0 = false by simp [hereV, Ex.here, eqE, eqE1, *])
  have FN := hide (fun r w' (v : Value) => nil_val (r := r) (w := w) (w' := w') (v := v) (unhide V))
  generalize LeafR 11 n s w = R at *
  by_cases g1 : 0 ≤ n
  · by_cases g2 : n ≤ 9
    · (go_enter Tryd.func95, Tryd.ntmps95; go_wp2_with fail; refine wp_region_sub (⟨W, Below.refl _ _⟩ : Sub W.heap.size W) (by kernel_rfl) (by kernel_rfl) ?_; (repeat (go_big_quiet_step (first | fail))); refine wpQuiet_nil ?_; intro y; go_wp2; (try go_ret2); exact unhide FN _ _ _ rfl (fun h => by first | rfl | cases h) (unhide HB _))
    · have g4 : decide (n ≤ 9) = false := decide_eq_false g2
      (go_enter Tryd.func95, Tryd.ntmps95; go_wp2_with fail; refine wp_region_sub (⟨W, Below.refl _ _⟩ : Sub W.heap.size W) (by kernel_rfl) (by kernel_rfl) ?_; (repeat (go_big_quiet_step (first | fail))); refine wpQuiet_nil ?_; intro y; go_wp2; (try go_ret2); exact unhide FN _ _ _ rfl (fun h => by first | rfl | cases h) (unhide HB _))
  · have g3 : decide (0 ≤ n) = false := decide_eq_false g1
    (go_enter Tryd.func95, Tryd.ntmps95; go_wp2_with fail; refine wp_region_sub (⟨W, Below.refl _ _⟩ : Sub W.heap.size W) (by kernel_rfl) (by kernel_rfl) ?_; (repeat (go_big_quiet_step (first | fail))); refine wpQuiet_nil ?_; intro y; go_wp2; (try go_ret2); exact unhide FN _ _ _ rfl (fun h => by first | rfl | cases h) (unhide HB _))
set_option maxHeartbeats 2000000 in
theorem leaf11_0 (n : Int) (s : ByteArray) : LeafG 11 n ⟨#[]⟩ := by
  intro b ll cap w ht
  obtain ⟨W, hW⟩ : ∃ W, w.alloc (.cells #[.int .i64 11, .int .i64 n, .string ⟨#[]⟩, .slice b ll cap] 37) = W := ⟨_, rfl⟩
  have B0 := hide (below_new w (.cells #[.int .i64 11, .int .i64 n, .string ⟨#[]⟩, .slice b ll cap] 37))
  have hg : W.heap[w.heap.size]? = some (.cells #[.int .i64 11, .int .i64 n, .string ⟨#[]⟩, .slice b ll cap] 37 (0, 0)) := by rw [← hW]; exact Array.getElem?_push_size
  rw [hW] at B0
  have x0 := Lib.cell_of_heap hg 0
  have x1 := Lib.cell_of_heap hg 1
  have x2 := Lib.cell_of_heap hg 2
  have xl : w.heap.size < W.heap.size := (Array.getElem?_eq_some_iff.1 hg).1
  have y0 : ∀ y : Sub W.heap.size W, y.w.cell? ⟨w.heap.size, 0, none⟩ = some (.int .i64 11) := fun y => (y.h.cell (p := ⟨w.heap.size, _, none⟩) xl).trans x0
  have y1 : ∀ y : Sub W.heap.size W, y.w.cell? ⟨w.heap.size, 1, none⟩ = some (.int .i64 n) := fun y => (y.h.cell (p := ⟨w.heap.size, _, none⟩) xl).trans x1
  have y2 : ∀ y : Sub W.heap.size W, y.w.cell? ⟨w.heap.size, 2, none⟩ = some (.string ⟨#[]⟩) := fun y => (y.h.cell (p := ⟨w.heap.size, _, none⟩) xl).trans x2
  have ne := Sub.ne W.heap.size W
  have HZ := hide (Nat.le_refl W.heap.size)
  have TB := hide (fun y : Sub W.heap.size W => (ht.next (unhide B0)).next y.h)
  have HB := hide (fun y : Sub W.heap.size W => (unhide B0).trans (y.h.mono (unhide B0).size))
  clear hg xl ht
  by_cases g1 : 0 ≤ n
  · by_cases g2 : n ≤ 9
    · have e : inB n 0 9 = true := by unfold inB; simp <;> omega
      have V := hide (show hereV 11 n ⟨#[]⟩ 0 = true by simp [hereV, Ex.here, eqE, eqE1, e])
      have FN := hide (fun r w' (v : Value) => nil_val (r := r) (w := w) (w' := w') (v := v) (unhide V))
      generalize LeafR 11 n ⟨#[]⟩ w = R at *
      clear e
      (go_enter Tryd.func95, Tryd.ntmps95; go_wp2_with fail; refine wp_region_sub (⟨W, Below.refl _ _⟩ : Sub W.heap.size W) (by kernel_rfl) (by kernel_rfl) ?_; (repeat (go_big_quiet_step (first | fail))); refine wpQuiet_nil ?_; intro y; go_wp2; (try go_ret2); exact unhide FN _ _ _ rfl (fun h => by first | rfl | cases h) (unhide HB _))
    · have g4 : decide (n ≤ 9) = false := decide_eq_false g2
      have e : inB n 0 9 = false := by unfold inB; simp <;> omega
      have V := hide (show hereV 11 n ⟨#[]⟩ 0 = false by simp [hereV, Ex.here, eqE, eqE1, e])
      have FN := hide (fun r w' (v : Value) => nil_val (r := r) (w := w) (w' := w') (v := v) (unhide V))
      generalize LeafR 11 n ⟨#[]⟩ w = R at *
      clear e
      (go_enter Tryd.func95, Tryd.ntmps95; go_wp2_with fail; refine wp_region_sub (⟨W, Below.refl _ _⟩ : Sub W.heap.size W) (by kernel_rfl) (by kernel_rfl) ?_; (repeat (go_big_quiet_step (first | fail))); refine wpQuiet_nil ?_; intro y; go_wp2; (try go_ret2); exact unhide FN _ _ _ rfl (fun h => by first | rfl | cases h) (unhide HB _))
  · have g3 : decide (0 ≤ n) = false := decide_eq_false g1
    have e : inB n 0 9 = false := by unfold inB; simp <;> omega
    have V := hide (show hereV 11 n ⟨#[]⟩ 0 = false by simp [hereV, Ex.here, eqE, eqE1, e])
    have FN := hide (fun r w' (v : Value) => nil_val (r := r) (w := w) (w' := w') (v := v) (unhide V))
    generalize LeafR 11 n ⟨#[]⟩ w = R at *
    clear e
    (go_enter Tryd.func95, Tryd.ntmps95; go_wp2_with fail; refine wp_region_sub (⟨W, Below.refl _ _⟩ : Sub W.heap.size W) (by kernel_rfl) (by kernel_rfl) ?_; (repeat (go_big_quiet_step (first | fail))); refine wpQuiet_nil ?_; intro y; go_wp2; (try go_ret2); exact unhide FN _ _ _ rfl (fun h => by first | rfl | cases h) (unhide HB _))
set_option maxHeartbeats 2000000 in
theorem leaf_no (k n : Int) (s : ByteArray) (h1 : k ≠ 1) (h2 : k ≠ 2) (h3 : k ≠ 3) (h11 : k ≠ 11) (h12 : k ≠ 12) : LeafG k n s := by
  intro b ll cap w ht
  obtain ⟨W, hW⟩ : ∃ W, w.alloc (.cells #[.int .i64 k, .int .i64 n, .string s, .slice b ll cap] 37) = W := ⟨_, rfl⟩
  have B0 := hide (below_new w (.cells #[.int .i64 k, .int .i64 n, .string s, .slice b ll cap] 37))
  have hg : W.heap[w.heap.size]? = some (.cells #[.int .i64 k, .int .i64 n, .string s, .slice b ll cap] 37 (0, 0)) := by rw [← hW]; exact Array.getElem?_push_size
  rw [hW] at B0
  have x0 := Lib.cell_of_heap hg 0
  have x1 := Lib.cell_of_heap hg 1
  have x2 := Lib.cell_of_heap hg 2
  have xl : w.heap.size < W.heap.size := (Array.getElem?_eq_some_iff.1 hg).1
  have y0 : ∀ y : Sub W.heap.size W, y.w.cell? ⟨w.heap.size, 0, none⟩ = some (.int .i64 k) := fun y => (y.h.cell (p := ⟨w.heap.size, _, none⟩) xl).trans x0
  have y1 : ∀ y : Sub W.heap.size W, y.w.cell? ⟨w.heap.size, 1, none⟩ = some (.int .i64 n) := fun y => (y.h.cell (p := ⟨w.heap.size, _, none⟩) xl).trans x1
  have y2 : ∀ y : Sub W.heap.size W, y.w.cell? ⟨w.heap.size, 2, none⟩ = some (.string s) := fun y => (y.h.cell (p := ⟨w.heap.size, _, none⟩) xl).trans x2
  have ne := Sub.ne W.heap.size W
  have HZ := hide (Nat.le_refl W.heap.size)
  have TB := hide (fun y : Sub W.heap.size W => (ht.next (unhide B0)).next y.h)
  have HB := hide (fun y : Sub W.heap.size W => (unhide B0).trans (y.h.mono (unhide B0).size))
  clear hg xl ht
  have g1 : (k == 1) = false := beq_eq_false_iff_ne.2 h1
  have g2 : (k == 2) = false := beq_eq_false_iff_ne.2 h2
  have g3 : (k == 3) = false := beq_eq_false_iff_ne.2 h3
  have g11 : (k == 11) = false := beq_eq_false_iff_ne.2 h11
  have g12 : (k == 12) = false := beq_eq_false_iff_ne.2 h12
  have V := hide (show hereV k n s 0 = false by unfold hereV Ex.here; simp only [List.length_replicate]; split; rfl; rw [if_neg (by omega)]; (repeat' (first | rfl | split)); all_goals first | rfl | omega)
  have FN := hide (fun r w' (v : Value) => nil_val (r := r) (w := w) (w' := w') (v := v) (unhide V))
  generalize LeafR k n s w = R at *
  (go_enter Tryd.func95, Tryd.ntmps95; go_wp2; (try go_ret2); exact unhide FN _ _ _ rfl (fun h => by cases h) (unhide B0))
theorem leaf_any (k n : Int) (s : ByteArray) (b : Option Addr) (ll cap : Nat) (w : World) (hs : s.size ≤ 1099511627776) (ht : TabK w) : Calls Tryd.prog 95 #[.agg #[.int .i64 k, .int .i64 n, .string s, .slice b ll cap]] w (LeafR k n s w) := by
  revert b ll cap w
  show ∀ b ll cap w, TabK w → _
  by_cases c1 : k = 1
  · subst c1
    by_cases h : s = E0
    · subst h; exact leaf1_0 n E0
    · exact leaf1_s n s h
  by_cases c2 : k = 2
  · subst c2
    by_cases h : n = 0
    · subst h; exact leaf2_0 0 s hs
    · exact leaf2_n n s h hs
  by_cases c12 : k = 12
  · subst c12
    by_cases h : n = 0
    · subst h; exact leaf12_0 0 s hs
    · exact leaf12_n n s h hs
  by_cases c3 : k = 3
  · subst c3
    by_cases h : n = 0
    · subst h
      by_cases h : s = E0
      · subst h; exact leaf3_0 0 E0
      · exact leaf3_s 0 s h
    · exact leaf3_n n s h
  by_cases c11 : k = 11
  · subst c11
    by_cases h : s = E0
    · subst h; exact leaf11_0 n E0
    · exact leaf11_s n s h
  exact leaf_no k n s c1 c2 c3 c11 c12
end Go.Proofs.YthgbpofcfmnpdaaDoor
