/- Draws that make memory of their own: what stays while they go on; a drawn word; over this seat's translation; conditions stand as hypotheses of each. -/
import Derived.Test.YtfkmibgamkignaaCodeB
namespace Go.Proofs.Ytfkmibgamkignaa
open Go.ChangeShapes Go.WideShapes Go.ChangeAt Go.RowKit
set_option linter.unusedVariables false
set_option maxRecDepth 8000
set_option linter.unusedSimpArgs false

theorem row3_heap {w : World} {b t : Nat} {l : List Int} (h : w.rowIs b t 3 (c8 l)) : w.heap[b]? = some (.cells #[c8 l 0, c8 l 1, c8 l 2] t (0, 0)) := by
  obtain ⟨c, hc, hs, hv⟩ := h
  rw [hc]
  have : c = #[c8 l 0, c8 l 1, c8 l 2] := by
    apply Array.ext_getElem?
    intro i
    by_cases hi : i < 3
    · rw [hv i hi]
      rcases i with _ | _ | _ | i
      · rfl
      · rfl
      · rfl
      · omega
    · rw [Array.getElem?_eq_none (by omega), Array.getElem?_eq_none (by simp; omega)]
  rw [this]
/-- The cursor and an answer's block, while draws go on. -/
structure Ez (w wr : World) (cb : Nat) (a : Option Addr) (len cap : Nat) (xs : List UInt8) (t n : Nat) (r : Nat → Value) : Prop where
  cur : Cur wr cb a len cap xs
  gr : w.grownBy wr (some cb)
  res : wr.rowIs w.heap.size t n r
  lt : cb < w.heap.size
  cd : xs = [] ∨ ∀ ad, a = some ad → ad.block < w.heap.size
section
variable {w wr w' : World} {cb : Nat} {a : Option Addr} {len cap : Nat} {xs : List UInt8} {t n : Nat} {r f : Nat → Value}
theorem ez_new (hc : Cur w cb a len cap xs) (c : Array Value) (t n : Nat) (r : Nat → Value) (h : (w.alloc (.cells c t)).rowIs w.heap.size t n r) : Ez w (w.alloc (.cells c t)) cb a len cap xs t n r :=
  ⟨hc.later ((Below.refl _ _).alloc (Nat.le_refl _) _), grownBy_below ((Below.refl _ _).alloc (Nat.le_refl _) _), h, hc.lt, hc.code⟩
theorem Ez.size (h : Ez w wr cb a len cap xs t n r) : w.heap.size ≤ wr.heap.size := h.gr.size
theorem Ez.draw (h : Ez w wr cb a len cap xs t n r) (hc : Cur w' cb a len cap xs) (hg : wr.grownBy w' (some cb)) : Ez w w' cb a len cap xs t n r :=
  ⟨hc, grownBy_trans h.gr hg, h.res.of_block (hg.block _ h.res.lt (fun e => by have := h.lt; simp at e; omega)), h.lt, h.cd⟩
theorem Ez.later (h : Ez w wr cb a len cap xs t n r) (hb : Below wr.heap.size wr w') : Ez w w' cb a len cap xs t n r :=
  h.draw (h.cur.later hb) (grownBy_below hb)
theorem Ez.alloc (h : Ez w wr cb a len cap xs t n r) (o : Obj) : Ez w (wr.alloc o) cb a len cap xs t n r :=
  h.later ((Below.refl _ _).alloc (Nat.le_refl _) o)
theorem Ez.setO (h : Ez w wr cb a len cap xs t n r) {bx : Nat} (hb : w.heap.size < bx) (k : Nat) (v : Value) : Ez w (wr.setCell ⟨bx, k, none⟩ v) cb a len cap xs t n r :=
  ⟨h.cur.past (grownBy_set v) h.lt h.cd (fun g e => by cases e; omega), grownBy_own h.gr (grownBy_set v) (fun g e => by cases e; omega), h.res.of_block (Below.heap_setCell _ _ _ _ (by show w.heap.size ≠ bx; omega)), h.lt, h.cd⟩
theorem Ez.setR (h : Ez w wr cb a len cap xs t n r) (k : Nat) (v : Value) (r' : Nat → Value) (he : (wr.setCell ⟨w.heap.size, k, none⟩ v).rowIs w.heap.size t n r') : Ez w (wr.setCell ⟨w.heap.size, k, none⟩ v) cb a len cap xs t n r' :=
  ⟨h.cur.past (grownBy_set v) h.lt h.cd (fun g e => by cases e; omega), grownBy_own h.gr (grownBy_set v) (fun g e => by cases e; omega), he, h.lt, h.cd⟩
theorem row_draw {bx : Nat} (h : wr.rowIs bx t n f) (hg : wr.grownBy w' (some cb)) (hne : cb < bx) : w'.rowIs bx t n f :=
  h.of_block (hg.block _ h.lt (fun e => by simp at e; omega))
theorem row_later {bx : Nat} (h : wr.rowIs bx t n f) (hb : Below wr.heap.size wr w') : w'.rowIs bx t n f := h.of_block (hb.block _ h.lt)
theorem row_alloc {bx : Nat} (h : wr.rowIs bx t n f) (o : Obj) : (wr.alloc o).rowIs bx t n f := row_later h ((Below.refl _ _).alloc (Nat.le_refl _) o)
end
theorem row3_set {w : World} {b t : Nat} {l l' : List Int} (h : w.rowIs b t 3 (c8 l)) (k : Nat) (x : Int) (he : ∀ j, j < 3 → (if j = k then Value.int .i64 x else c8 l j) = c8 l' j) : (w.setCell ⟨b, k, none⟩ (.int .i64 x)).rowIs b t 3 (c8 l') :=
  (h.set k (.int .i64 x)).congr (fun j hj => he j hj)
theorem row3_new (w : World) (l : List Int) (t : TypeId) : (w.alloc (Obj.cells #[c8 l 0, c8 l 1, c8 l 2] t)).rowIs w.heap.size t 3 (c8 l) :=
  ⟨_, Array.getElem?_push_size, rfl, fun i hi => by rcases i with _ | _ | _ | i <;> first | rfl | omega⟩

set_option maxHeartbeats 1000000 in
theorem word_any (cb : Nat) (a : Option Addr) (len cap : Nat) (xs : List UInt8) (w : World) (hc : Cur w cb a len cap xs) :
    Calls Try.prog 78 #[.pointer (some ⟨cb, 0, none⟩)] w fun e w' => ∃ x : Int, 0 ≤ x ∧ x ≤ 65535 ∧ e = .returned (.int .i64 x) ∧ Cur w' cb a len cap xs ∧ w.grownBy w' (some cb) := by
  have B0 := hide (below_any cb a len cap xs 65536 w (by omega) hc)
  have hlt := hc.lt
  clear hc
  go_enter Try.func78, Try.ntmps78
  go_wp2_with fail
  refine (unhide B0).mono ?_
  rintro e w1 ⟨y, hy0, hy1, rfl, hc1, hg1⟩
  obtain ⟨hy2, hy3⟩ := hy0 (by omega)
  clear hy0 hy1 B0
  have s1 := hg1.size
  have I1 := hide (int_any cb a len cap xs (some ⟨w1.heap.size, 0, none⟩) 11 11 [0, 1, 2, 3, 5, 8, 255, 32767, 32768, 65535, y] (w1.alloc (.cells ([0, 1, 2, 3, 5, 8, 255, 32767, 32768, 65535, y].map (Value.int .i64)).toArray 3)) (hc1.later ((Below.refl _ _).alloc (Nat.le_refl _) _)) (RdN_lit w1 _) (fun ad e => by cases e; show w1.heap.size ≠ cb; omega) rfl (by omega) (by omega))
  have G1 := hide (grownBy_trans hg1 (grownBy_below ((Below.refl w1.heap.size w1).alloc (Nat.le_refl _) (.cells ([0, 1, 2, 3, 5, 8, 255, 32767, 32768, 65535, y].map (Value.int .i64)).toArray 3))))
  clear hc1 hg1
  go_wp2_with fail
  refine (unhide I1).mono ?_
  rintro e w2 ⟨j, hj, rfl, hc2, hg2⟩
  have hb : 0 ≤ nAt [0, 1, 2, 3, 5, 8, 255, 32767, 32768, 65535, y] j ∧ nAt [0, 1, 2, 3, 5, 8, 255, 32767, 32768, 65535, y] j ≤ 65535 := by
    obtain rfl | rfl | rfl | rfl | rfl | rfl | rfl | rfl | rfl | rfl | rfl : j = 0 ∨ j = 1 ∨ j = 2 ∨ j = 3 ∨ j = 4 ∨ j = 5 ∨ j = 6 ∨ j = 7 ∨ j = 8 ∨ j = 9 ∨ j = 10 := by omega
    all_goals simp [nAt]
    omega
  generalize nAt [0, 1, 2, 3, 5, 8, 255, 32767, 32768, 65535, y] j = x at hb ⊢
  have G2 := hide (grownBy_trans (unhide G1) hg2)
  have C2 := hide hc2
  clear hc2 hg2 I1 G1
  go_wp2
  go_ret
  exact ⟨x, hb.1, hb.2, rfl, unhide C2, unhide G2⟩
end Go.Proofs.Ytfkmibgamkignaa
