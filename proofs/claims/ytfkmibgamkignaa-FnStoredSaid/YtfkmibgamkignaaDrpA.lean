/- Drawn places; over this seat's translation; conditions stand as hypotheses of each. -/
import Derived.Test.YtfkmibgamkignaaPlcI
import Derived.Test.YtfkmibgamkignaaPrgM
import Derived.Test.YtfkmibgamkignaaDrmD
import Derived.Test.YtfkmibgamkignaaAsg
namespace Go.Proofs.Ytfkmibgamkignaa
open Go.ChangeShapes Go.WideShapes Go.ChangeAt Go.RowKit
set_option linter.unusedVariables false
set_option maxRecDepth 8000
set_option linter.unusedSimpArgs false

/-- The cursor, and the place of an answer, while draws go on. -/
structure Er (w wr : World) (cb : Nat) (a : Option Addr) (len cap : Nat) (xs : List UInt8) (z : Array Value) (t : TypeId) : Prop where
  cur : Cur wr cb a len cap xs
  gr : w.grownBy wr (some cb)
  re : wr.heap[w.heap.size]? = some (.cells z t (0, 0))
  lt : cb < w.heap.size
  cd : xs = [] ∨ ∀ ad, a = some ad → ad.block < w.heap.size
section
variable {w wr w' : World} {cb : Nat} {a : Option Addr} {len cap : Nat} {xs : List UInt8} {z : Array Value} {t : TypeId}
theorem er_new (h : Cur w cb a len cap xs) (z : Array Value) (t : TypeId) : Er w (w.alloc (.cells z t)) cb a len cap xs z t := ⟨h.later (below_new w _), grownBy_below (below_new w _), heap_alloc_last w _, h.lt, h.code⟩
theorem Er.draw (h : Er w wr cb a len cap xs z t) (hc : Cur w' cb a len cap xs) (hg : wr.grownBy w' (some cb)) : Er w w' cb a len cap xs z t := ⟨hc, h.gr.trans hg, row_past h.re hg (by have := h.lt; omega), h.lt, h.cd⟩
theorem Er.store (h : Er w wr cb a len cap xs z t) (c : Array Value) : Er w (wr.setRow w.heap.size c) cb a len cap xs c t :=
  ⟨h.cur.past (grownBy_setRow c) h.lt h.cd (fun g e => by cases e; exact Nat.le_refl _), grownBy_own h.gr (grownBy_setRow c) (fun b e => by cases e; exact Nat.le_refl _), setRow_heap wr _ _ _ t _ h.re, h.lt, h.cd⟩
theorem Er.later (h : Er w wr cb a len cap xs z t) (hb : Below wr.heap.size wr w') : Er w w' cb a len cap xs z t := ⟨h.cur.later hb, grown_below h.gr hb, row_lat h.re hb, h.lt, h.cd⟩
end


set_option maxHeartbeats 4000000 in
theorem draw6_any (cb : Nat) (a : Option Addr) (len cap : Nat) (xs : List UInt8) (w : World) (hc : Cur w cb a len cap xs) :
    Calls Try.prog 72 #[.pointer (some ⟨cb, 0, none⟩)] w fun e w' => ∃ r p : Int, e = .returned (.agg #[.int .i64 r, .int .i64 p]) ∧ Cur w' cb a len cap xs ∧ w.grownBy w' (some cb) := by
  have E0 := hide (er_new hc #[.int .i64 0, .int .i64 0] 44)
  have I0 := hide (once_any cb a len cap xs 2 _ (by omega) (unhide E0).cur)
  clear hc
  go_enter Try.func72, Try.ntmps72
  go_wp2_with fail
  refine (unhide I0).mono ?_
  rintro e w1 ⟨b, rfl, hc1, hg1⟩
  have E1 := hide ((unhide E0).draw hc1 hg1)
  clear hc1 hg1 E0 I0
  cases b
  · have A := hide (addr_any cb a len cap xs w1 (unhide E1).cur)
    go_wp2_with fail
    refine (unhide A).mono ?_
    rintro e w2 ⟨x, rfl, hc2, hg2⟩
    have E2 := hide ((unhide E1).draw hc2 hg2)
    clear hc2 hg2 A E1
    go_wp2_with (refine wpList_store_row rfl 44 _ _ rfl w.heap.size #[.int .i64 (-1), .int .i64 x] rfl rfl 44 #[.int .i64 0, .int .i64 0] (unhide E2).re (by kernel_rfl) rfl (by simp [Value.oneCell']) ?_)
    have E3 := (unhide E2).store #[.int .i64 (-1), .int .i64 x]
    refine bodyPost_ret (results_cell_row (P := Try.prog) rfl _ _ w.heap.size 44 #[.int .i64 (-1), .int .i64 x] (0, 0) _ rfl E3.re Try.underlying44 rfl (by kernel_rfl)) rfl ?_
    exact ⟨_, _, rfl, E3.cur, E3.gr⟩
  · have I1 := hide (int_lit cb a len cap xs w1 (unhide E1).cur [0, 5, 7, 8] 4 rfl (by omega) (by omega) w1.heap.size rfl _ rfl)
    go_wp2_with fail
    refine (unhide I1).mono ?_
    rintro e w2 ⟨j1, hj1, rfl, hc2, hg2⟩
    generalize nAt [0, 5, 7, 8] j1 = r
    have E2 := hide (((unhide E1).later (below_new w1 _)).draw hc2 hg2)
    clear hc2 hg2 I1 E1 hj1
    have I2 := hide (int_lit cb a len cap xs w2 (unhide E2).cur [-1, -1, -1, 0] 4 rfl (by omega) (by omega) w2.heap.size rfl _ rfl)
    go_wp2_with fail
    refine (unhide I2).mono ?_
    rintro e w3 ⟨j1, hj1, rfl, hc2, hg2⟩
    generalize nAt [-1, -1, -1, 0] j1 = p
    have E3 := hide (((unhide E2).later (below_new w2 _)).draw hc2 hg2)
    clear hc2 hg2 I2 E2 hj1
    go_wp2_with (refine wpList_store_row rfl 44 _ _ rfl w.heap.size #[.int .i64 r, .int .i64 p] rfl rfl 44 #[.int .i64 0, .int .i64 0] (unhide E3).re (by kernel_rfl) rfl (by simp [Value.oneCell']) ?_)
    have E4 := (unhide E3).store #[.int .i64 r, .int .i64 p]
    refine bodyPost_ret (results_cell_row (P := Try.prog) rfl _ _ w.heap.size 44 #[.int .i64 r, .int .i64 p] (0, 0) _ rfl E4.re Try.underlying44 rfl (by kernel_rfl)) rfl ?_
    exact ⟨_, _, rfl, E4.cur, E4.gr⟩
end Go.Proofs.Ytfkmibgamkignaa
