/- Contracts over this seat's translation, laid together; conditions stand as hypotheses of each. -/
import Derived.Test.YtfkmibgamkignaaBndD
import Derived.Test.YtfkmibgamkignaaBndG

namespace Go.Proofs.Ytfkmibgamkignaa
open Go.ChangeShapes Go.WideShapes Go.ChangeAt Go.RowKit
set_option linter.unusedVariables false
set_option maxRecDepth 8000
set_option linter.unusedSimpArgs false

theorem row3_heap {w : World} {b t : Nat} {l : List Int} (h : w.rowIs b t 3 (c8 l)) : w.heap[b]? = some (.cells #[c8 l 0, c8 l 1, c8 l 2] t (0, 0)) := by
  obtain ⟨c, hc, hs, hv⟩ := h
  rw [hc]
  have : c = #[c8 l 0, c8 l 1, c8 l 2] := by
    apply Array.ext_getElem?
    intro i
    by_cases hi : i < 3
    · rw [hv i hi]
      rcases i with _ | _ | _ | i
      · rfl
      · rfl
      · rfl
      · omega
    · rw [Array.getElem?_eq_none (by omega), Array.getElem?_eq_none (by simp; omega)]
  rw [this]
/-- The cursor and an answer's block, while draws go on. -/
structure Ez (w wr : World) (cb : Nat) (a : Option Addr) (len cap : Nat) (xs : List UInt8) (t n : Nat) (r : Nat → Value) : Prop where
  cur : Cur wr cb a len cap xs
  gr : w.grownBy wr (some cb)
  res : wr.rowIs w.heap.size t n r
  lt : cb < w.heap.size
  cd : xs = [] ∨ ∀ ad, a = some ad → ad.block < w.heap.size
section
variable {w wr w' : World} {cb : Nat} {a : Option Addr} {len cap : Nat} {xs : List UInt8} {t n : Nat} {r f : Nat → Value}
theorem ez_new (hc : Cur w cb a len cap xs) (c : Array Value) (t n : Nat) (r : Nat → Value) (h : (w.alloc (.cells c t)).rowIs w.heap.size t n r) : Ez w (w.alloc (.cells c t)) cb a len cap xs t n r :=
  ⟨hc.later ((Below.refl _ _).alloc (Nat.le_refl _) _), grownBy_below ((Below.refl _ _).alloc (Nat.le_refl _) _), h, hc.lt, hc.code⟩
theorem Ez.size (h : Ez w wr cb a len cap xs t n r) : w.heap.size ≤ wr.heap.size := h.gr.size
theorem Ez.draw (h : Ez w wr cb a len cap xs t n r) (hc : Cur w' cb a len cap xs) (hg : wr.grownBy w' (some cb)) : Ez w w' cb a len cap xs t n r :=
  ⟨hc, grownBy_trans h.gr hg, h.res.of_block (hg.block _ h.res.lt (fun e => by have := h.lt; simp at e; omega)), h.lt, h.cd⟩
theorem Ez.later (h : Ez w wr cb a len cap xs t n r) (hb : Below wr.heap.size wr w') : Ez w w' cb a len cap xs t n r :=
  h.draw (h.cur.later hb) (grownBy_below hb)
theorem Ez.alloc (h : Ez w wr cb a len cap xs t n r) (o : Obj) : Ez w (wr.alloc o) cb a len cap xs t n r :=
  h.later ((Below.refl _ _).alloc (Nat.le_refl _) o)
theorem Ez.setO (h : Ez w wr cb a len cap xs t n r) {bx : Nat} (hb : w.heap.size < bx) (k : Nat) (v : Value) : Ez w (wr.setCell ⟨bx, k, none⟩ v) cb a len cap xs t n r :=
  ⟨h.cur.past (grownBy_set v) h.lt h.cd (fun g e => by cases e; omega), grownBy_own h.gr (grownBy_set v) (fun g e => by cases e; omega), h.res.of_block (Below.heap_setCell _ _ _ _ (by show w.heap.size ≠ bx; omega)), h.lt, h.cd⟩
theorem Ez.setR (h : Ez w wr cb a len cap xs t n r) (k : Nat) (v : Value) (r' : Nat → Value) (he : (wr.setCell ⟨w.heap.size, k, none⟩ v).rowIs w.heap.size t n r') : Ez w (wr.setCell ⟨w.heap.size, k, none⟩ v) cb a len cap xs t n r' :=
  ⟨h.cur.past (grownBy_set v) h.lt h.cd (fun g e => by cases e; omega), grownBy_own h.gr (grownBy_set v) (fun g e => by cases e; omega), he, h.lt, h.cd⟩
theorem row_draw {bx : Nat} (h : wr.rowIs bx t n f) (hg : wr.grownBy w' (some cb)) (hne : cb < bx) : w'.rowIs bx t n f :=
  h.of_block (hg.block _ h.lt (fun e => by simp at e; omega))
theorem row_later {bx : Nat} (h : wr.rowIs bx t n f) (hb : Below wr.heap.size wr w') : w'.rowIs bx t n f := h.of_block (hb.block _ h.lt)
theorem row_alloc {bx : Nat} (h : wr.rowIs bx t n f) (o : Obj) : (wr.alloc o).rowIs bx t n f := row_later h ((Below.refl _ _).alloc (Nat.le_refl _) o)
end
theorem row3_set {w : World} {b t : Nat} {l l' : List Int} (h : w.rowIs b t 3 (c8 l)) (k : Nat) (x : Int) (he : ∀ j, j < 3 → (if j = k then Value.int .i64 x else c8 l j) = c8 l' j) : (w.setCell ⟨b, k, none⟩ (.int .i64 x)).rowIs b t 3 (c8 l') :=
  (h.set k (.int .i64 x)).congr (fun j hj => he j hj)
theorem row3_new (w : World) (l : List Int) (t : TypeId) : (w.alloc (Obj.cells #[c8 l 0, c8 l 1, c8 l 2] t)).rowIs w.heap.size t 3 (c8 l) :=
  ⟨_, Array.getElem?_push_size, rfl, fun i hi => by rcases i with _ | _ | _ | i <;> first | rfl | omega⟩

set_option maxHeartbeats 1000000 in
theorem word_any (cb : Nat) (a : Option Addr) (len cap : Nat) (xs : List UInt8) (w : World) (hc : Cur w cb a len cap xs) :
    Calls Try.prog 78 #[.pointer (some ⟨cb, 0, none⟩)] w fun e w' => ∃ x : Int, 0 ≤ x ∧ x ≤ 65535 ∧ e = .returned (.int .i64 x) ∧ Cur w' cb a len cap xs ∧ w.grownBy w' (some cb) := by
  have B0 := hide (below_any cb a len cap xs 65536 w (by omega) hc)
  have hlt := hc.lt
  clear hc
  go_enter Try.func78, Try.ntmps78
  go_wp2_with fail
  refine (unhide B0).mono ?_
  rintro e w1 ⟨y, hy0, hy1, rfl, hc1, hg1⟩
  obtain ⟨hy2, hy3⟩ := hy0 (by omega)
  clear hy0 hy1 B0
  have s1 := hg1.size
  have I1 := hide (int_any cb a len cap xs (some ⟨w1.heap.size, 0, none⟩) 11 11 [0, 1, 2, 3, 5, 8, 255, 32767, 32768, 65535, y] (w1.alloc (.cells ([0, 1, 2, 3, 5, 8, 255, 32767, 32768, 65535, y].map (Value.int .i64)).toArray 3)) (hc1.later ((Below.refl _ _).alloc (Nat.le_refl _) _)) (RdN_lit w1 _) (fun ad e => by cases e; show w1.heap.size ≠ cb; omega) rfl (by omega) (by omega))
  have G1 := hide (grownBy_trans hg1 (grownBy_below ((Below.refl w1.heap.size w1).alloc (Nat.le_refl _) (.cells ([0, 1, 2, 3, 5, 8, 255, 32767, 32768, 65535, y].map (Value.int .i64)).toArray 3))))
  clear hc1 hg1
  go_wp2_with fail
  refine (unhide I1).mono ?_
  rintro e w2 ⟨j, hj, rfl, hc2, hg2⟩
  have hb : 0 ≤ nAt [0, 1, 2, 3, 5, 8, 255, 32767, 32768, 65535, y] j ∧ nAt [0, 1, 2, 3, 5, 8, 255, 32767, 32768, 65535, y] j ≤ 65535 := by
    obtain rfl | rfl | rfl | rfl | rfl | rfl | rfl | rfl | rfl | rfl | rfl : j = 0 ∨ j = 1 ∨ j = 2 ∨ j = 3 ∨ j = 4 ∨ j = 5 ∨ j = 6 ∨ j = 7 ∨ j = 8 ∨ j = 9 ∨ j = 10 := by omega
    all_goals simp [nAt]
    omega
  generalize nAt [0, 1, 2, 3, 5, 8, 255, 32767, 32768, 65535, y] j = x at hb ⊢
  have G2 := hide (grownBy_trans (unhide G1) hg2)
  have C2 := hide hc2
  clear hc2 hg2 I1 G1
  go_wp2
  go_ret
  exact ⟨x, hb.1, hb.2, rfl, unhide C2, unhide G2⟩
end Go.Proofs.Ytfkmibgamkignaa

namespace Go.Proofs.Ytfkmibgamkignaa
open Go.ChangeShapes Go.WideShapes Go.ChangeAt Go.RowKit
set_option linter.unusedVariables false
set_option maxRecDepth 8000
set_option linter.unusedSimpArgs false

theorem inB_f (x a b : Int) (h : x < a ∨ b < x) : inB x a b = false := by unfold inB; rw [Bool.and_eq_false_iff]; simp; omega
theorem eqB_t (x a : Int) (h : x = a) : (x == a) = true := by simp [h]
theorem eqB_f (x a : Int) (h : x ≠ a) : (x == a) = false := by simp [h]
theorem modes_bd : ∀ i : Fin 10, 0 ≤ nAt [0, 0, 1, 2, 3, 4, 5, 6, 7, 2] i.val ∧ nAt [0, 0, 1, 2, 3, 4, 5, 6, 7, 2] i.val ≤ 7 := by decide +kernel
theorem regs_bd : ∀ i : Fin 7, 0 ≤ nAt [0, 1, 2, 5, 6, 7, 7] i.val ∧ nAt [0, 1, 2, 5, 6, 7, 7] i.val ≤ 7 := by decide +kernel
theorem od_okI {o : Od} (hm : 0 ≤ o.m ∧ o.m ≤ 7) (hr : 0 ≤ o.r ∧ o.r ≤ 7) (hx : 0 ≤ o.x ∧ o.x ≤ 65535) (h : o.hasX = true ∨ o.x = 0) : o.ok = true := by
  unfold Od.ok
  rw [inB_t _ _ _ hm, inB_t _ _ _ hr, inB_t _ _ _ hx]
  rcases h with h | h
  · rw [h]; rfl
  · simp [h]
/-- The literal list that a draw takes its number of, at the world where it is laid. -/
theorem int_lit (cb : Nat) (a : Option Addr) (len cap : Nat) (xs : List UInt8) (w : World) (hc : Cur w cb a len cap xs) (L : List Int) (m : Nat) (hm : L.length = m) (h0 : 0 < m) (hb : m ≤ 1048576) (g : Nat) (hg : w.heap.size = g) (o : Obj) (ho : o = (.cells (L.map (Value.int .i64)).toArray 3)) :
    Calls Try.prog 48 #[.pointer (some ⟨cb, 0, none⟩), .slice (some ⟨g, 0, none⟩) m m] (w.alloc o) fun e w' => ∃ j : Nat, j < m ∧ e = .returned (.int .i64 (nAt L j)) ∧ Cur w' cb a len cap xs ∧ (w.alloc o).grownBy w' (some cb) := by
  subst hg
  subst ho
  exact int_any cb a len cap xs (some ⟨w.heap.size, 0, none⟩) m m L _ (hc.later ((Below.refl _ _).alloc (Nat.le_refl _) _)) (RdN_lit w _) (fun ad e => by cases e; show w.heap.size ≠ cb; have := hc.lt; omega) hm h0 hb

set_option maxHeartbeats 2000000 in
set_option maxRecDepth 100000 in
theorem opdD_any (cb : Nat) (a : Option Addr) (len cap : Nat) (xs : List UInt8) (w : World) (hc : Cur w cb a len cap xs) :
    Calls Try.prog 62 #[.pointer (some ⟨cb, 0, none⟩)] w fun e w' => ∃ o : Od, o.ok = true ∧ e = .returned o.v ∧ Cur w' cb a len cap xs ∧ w.grownBy w' (some cb) := by
  have hlt := hc.lt
  have E0 := hide (ez_new hc #[c8 [0, 0, 0] 0, c8 [0, 0, 0] 1, c8 [0, 0, 0] 2] 40 3 (c8 [0, 0, 0]) (row3_new w [0, 0, 0] 40))
  have I0 := hide (int_lit cb a len cap xs (w.alloc (Obj.cells #[c8 [0, 0, 0] 0, c8 [0, 0, 0] 1, c8 [0, 0, 0] 2] 40)) (unhide E0).cur [0, 0, 1, 2, 3, 4, 5, 6, 7, 2] 10 rfl (by omega) (by omega) (w.heap.size + 1) (by simp) _ rfl)
  clear hc
  go_enter Try.func62, Try.ntmps62
  go_wp2_with fail
  refine (unhide I0).mono ?_
  rintro e w1 ⟨j1, hj1, rfl, hc1, hg1⟩
  have hmb := modes_bd ⟨j1, hj1⟩
  simp only at hmb
  generalize nAt [0, 0, 1, 2, 3, 4, 5, 6, 7, 2] j1 = m at hmb ⊢
  have E1 := hide (((unhide E0).alloc _).draw hc1 hg1)
  have I1 := hide (int_lit cb a len cap xs w1 hc1 [0, 1, 2, 5, 6, 7, 7] 7 rfl (by omega) (by omega) w1.heap.size rfl _ rfl)
  clear hc1 hg1 I0 E0 hj1
  go_wp2_with fail
  refine (unhide I1).mono ?_
  rintro e w2 ⟨j2, hj2, rfl, hc2, hg2⟩
  have hrb := regs_bd ⟨j2, hj2⟩
  simp only at hrb
  generalize nAt [0, 1, 2, 5, 6, 7, 7] j2 = r at hrb ⊢
  have E2 := hide ((((unhide E1).alloc _).draw hc2 hg2).alloc (Obj.cells #[c8 [m, r, 0] 0, c8 [m, r, 0] 1, c8 [m, r, 0] 2] 40))
  have R2 := hide (row3_new w2 [m, r, 0] 40)
  have s2 : w.heap.size < w2.heap.size := by
    have h1 := (unhide E1).res.lt
    have h2 := hg2.size
    simp at h2
    omega
  clear hc2 hg2 I1 E1 hj2
  go_wp2_with fail
  refine (hasX_any ⟨m, r, 0⟩ _).mono ?_
  rintro e w3 ⟨rfl, hb3⟩
  have E3 := hide ((unhide E2).later hb3)
  have R3 := hide (row_later (unhide R2) hb3)
  clear hb3 E2 R2
  cases hX : Od.hasX ⟨m, r, 0⟩
  · have rr := unhide R3
    have ee := (unhide E3).res
    have x0 : w3.cell? ⟨w2.heap.size, 0, none⟩ = some (.int .i64 (m)) := rr.cell (i := 0) (by omega)
    have g0 := rr.frozen 0
    have c0 : w3.cell? ⟨w.heap.size, 0, none⟩ = some (.int .i64 0) := ee.cell (i := 0) (by omega)
    have f0 := ee.frozen 0
    have x1 : w3.cell? ⟨w2.heap.size, 1, none⟩ = some (.int .i64 (r)) := rr.cell (i := 1) (by omega)
    have g1 := rr.frozen 1
    have c1 : w3.cell? ⟨w.heap.size, 1, none⟩ = some (.int .i64 0) := ee.cell (i := 1) (by omega)
    have f1 := ee.frozen 1
    have x2 : w3.cell? ⟨w2.heap.size, 2, none⟩ = some (.int .i64 (0)) := rr.cell (i := 2) (by omega)
    have g2 := rr.frozen 2
    have c2 : w3.cell? ⟨w.heap.size, 2, none⟩ = some (.int .i64 0) := ee.cell (i := 2) (by omega)
    have f2 := ee.frozen 2
    clear rr ee
    have EF := hide ((((((unhide E3).setR 0 _ (c8 [m, 0, 0]) (row3_set (unhide E3).res 0 _ (fun j hj => by rcases j with _ | _ | _ | j <;> first | rfl | omega)))).setR 1 _ (c8 [m, r, 0]) (row3_set (((unhide E3).setR 0 _ (c8 [m, 0, 0]) (row3_set (unhide E3).res 0 _ (fun j hj => by rcases j with _ | _ | _ | j <;> first | rfl | omega)))).res 1 _ (fun j hj => by rcases j with _ | _ | _ | j <;> first | rfl | omega)))).setR 2 _ (c8 [m, r, 0]) (row3_set (((((unhide E3).setR 0 _ (c8 [m, 0, 0]) (row3_set (unhide E3).res 0 _ (fun j hj => by rcases j with _ | _ | _ | j <;> first | rfl | omega)))).setR 1 _ (c8 [m, r, 0]) (row3_set (((unhide E3).setR 0 _ (c8 [m, 0, 0]) (row3_set (unhide E3).res 0 _ (fun j hj => by rcases j with _ | _ | _ | j <;> first | rfl | omega)))).res 1 _ (fun j hj => by rcases j with _ | _ | _ | j <;> first | rfl | omega)))).res 2 _ (fun j hj => by rcases j with _ | _ | _ | j <;> first | rfl | omega)))
    go_wp2
    refine bodyPost_ret (results_cell_row (P := Try.prog) rfl _ _ w.heap.size 40 #[.int .i64 (m), .int .i64 (r), .int .i64 (0)] (0, 0) _ rfl (row3_heap (unhide EF).res) Try.underlying40 rfl (by kernel_rfl)) rfl ?_
    exact ⟨⟨m, r, 0⟩, od_okI hmb hrb (by simp) (.inr rfl), rfl, (unhide EF).cur, (unhide EF).gr⟩
  · have W3 := hide (word_any cb a len cap xs w3 (unhide E3).cur)
    go_wp2_with fail
    refine (unhide W3).mono ?_
    rintro e w4 ⟨x, hx0, hx1, rfl, hc4, hg4⟩
    have E4 := hide (((unhide E3).draw hc4 hg4).setO s2 2 (.int .i64 x))
    have R3' := hide (row_draw (unhide R3) hg4 (by omega))
    have R4 := hide (row3_set (unhide R3') 2 x (l' := [m, r, x]) (fun j hj => by rcases j with _ | _ | _ | j <;> first | rfl | omega))
    have ee3 := (unhide E3).draw hc4 hg4
    clear hc4 hg4 W3 E3 R3
    have x0 : w4.cell? ⟨w2.heap.size, 0, none⟩ = some (.int .i64 (m)) := (unhide R3').cell (i := 0) (by omega)
    have g0 := (unhide R3').frozen 0
    have c0 : w4.cell? ⟨w.heap.size, 0, none⟩ = some (.int .i64 0) := ee3.res.cell (i := 0) (by omega)
    have f0 := ee3.res.frozen 0
    have x1 : w4.cell? ⟨w2.heap.size, 1, none⟩ = some (.int .i64 (r)) := (unhide R3').cell (i := 1) (by omega)
    have g1 := (unhide R3').frozen 1
    have c1 : w4.cell? ⟨w.heap.size, 1, none⟩ = some (.int .i64 0) := ee3.res.cell (i := 1) (by omega)
    have f1 := ee3.res.frozen 1
    have x2 : w4.cell? ⟨w2.heap.size, 2, none⟩ = some (.int .i64 (0)) := (unhide R3').cell (i := 2) (by omega)
    have g2 := (unhide R3').frozen 2
    have c2 : w4.cell? ⟨w.heap.size, 2, none⟩ = some (.int .i64 0) := ee3.res.cell (i := 2) (by omega)
    have f2 := ee3.res.frozen 2
    clear ee3
    have EF := hide ((((((unhide E4).setR 0 _ (c8 [m, 0, 0]) (row3_set (unhide E4).res 0 _ (fun j hj => by rcases j with _ | _ | _ | j <;> first | rfl | omega)))).setR 1 _ (c8 [m, r, 0]) (row3_set (((unhide E4).setR 0 _ (c8 [m, 0, 0]) (row3_set (unhide E4).res 0 _ (fun j hj => by rcases j with _ | _ | _ | j <;> first | rfl | omega)))).res 1 _ (fun j hj => by rcases j with _ | _ | _ | j <;> first | rfl | omega)))).setR 2 _ (c8 [m, r, x]) (row3_set (((((unhide E4).setR 0 _ (c8 [m, 0, 0]) (row3_set (unhide E4).res 0 _ (fun j hj => by rcases j with _ | _ | _ | j <;> first | rfl | omega)))).setR 1 _ (c8 [m, r, 0]) (row3_set (((unhide E4).setR 0 _ (c8 [m, 0, 0]) (row3_set (unhide E4).res 0 _ (fun j hj => by rcases j with _ | _ | _ | j <;> first | rfl | omega)))).res 1 _ (fun j hj => by rcases j with _ | _ | _ | j <;> first | rfl | omega)))).res 2 _ (fun j hj => by rcases j with _ | _ | _ | j <;> first | rfl | omega)))
    have hne : w.heap.size ≠ w2.heap.size := by omega
    go_wp2
    refine bodyPost_ret (results_cell_row (P := Try.prog) rfl _ _ w.heap.size 40 #[.int .i64 m, .int .i64 r, .int .i64 x] (0, 0) _ rfl (row3_heap (unhide EF).res) Try.underlying40 rfl (by kernel_rfl)) rfl ?_
    exact ⟨⟨m, r, x⟩, od_okI hmb hrb ⟨hx0, hx1⟩ (.inl hX), rfl, (unhide EF).cur, (unhide EF).gr⟩
end Go.Proofs.Ytfkmibgamkignaa

namespace Go.Proofs.Ytfkmibgamkignaa
open Go.ChangeShapes Go.WideShapes Go.ChangeAt Go.RowKit
set_option linter.unusedVariables false
set_option maxRecDepth 8000
set_option linter.unusedSimpArgs false

theorem Ez.set8 {w wr : World} {cb : Nat} {a : Option Addr} {len cap : Nat} {xs : List UInt8} {l : List Int} (h : Ez w wr cb a len cap xs 92 8 (c8 l)) (k : Nat) (x : Int) (l' : List Int) (he : ∀ j, j < 8 → (if j = k then Value.int .i64 x else c8 l j) = c8 l' j) : Ez w (wr.setCell ⟨w.heap.size, k, none⟩ (.int .i64 x)) cb a len cap xs 92 8 (c8 l') :=
  h.setR k _ _ (row8_set h.res k x he)
theorem Ez.put8 {w wr : World} {cb : Nat} {a : Option Addr} {len cap : Nat} {xs : List UInt8} {y0 y1 y2 y3 y4 y5 y6 y7 : Int} (h : Ez w wr cb a len cap xs 92 8 (c8 [y0, y1, y2, y3, y4, y5, y6, y7])) (x0 x1 x2 x3 x4 x5 x6 x7 : Int) :
    Ez w ((((((((wr.setCell ⟨w.heap.size, 0, none⟩ (.int .i64 x0)).setCell ⟨w.heap.size, 1, none⟩ (.int .i64 x1)).setCell ⟨w.heap.size, 2, none⟩ (.int .i64 x2)).setCell ⟨w.heap.size, 3, none⟩ (.int .i64 x3)).setCell ⟨w.heap.size, 4, none⟩ (.int .i64 x4)).setCell ⟨w.heap.size, 5, none⟩ (.int .i64 x5)).setCell ⟨w.heap.size, 6, none⟩ (.int .i64 x6)).setCell ⟨w.heap.size, 7, none⟩ (.int .i64 x7)) cb a len cap xs 92 8 (c8 [x0, x1, x2, x3, x4, x5, x6, x7]) :=
  ((((((((h.set8 0 x0 [x0, y1, y2, y3, y4, y5, y6, y7] (fun j hj => by rcases j with _ | _ | _ | _ | _ | _ | _ | _ | j <;> first | rfl | omega)).set8 1 x1 [x0, x1, y2, y3, y4, y5, y6, y7] (fun j hj => by rcases j with _ | _ | _ | _ | _ | _ | _ | _ | j <;> first | rfl | omega)).set8 2 x2 [x0, x1, x2, y3, y4, y5, y6, y7] (fun j hj => by rcases j with _ | _ | _ | _ | _ | _ | _ | _ | j <;> first | rfl | omega)).set8 3 x3 [x0, x1, x2, x3, y4, y5, y6, y7] (fun j hj => by rcases j with _ | _ | _ | _ | _ | _ | _ | _ | j <;> first | rfl | omega)).set8 4 x4 [x0, x1, x2, x3, x4, y5, y6, y7] (fun j hj => by rcases j with _ | _ | _ | _ | _ | _ | _ | _ | j <;> first | rfl | omega)).set8 5 x5 [x0, x1, x2, x3, x4, x5, y6, y7] (fun j hj => by rcases j with _ | _ | _ | _ | _ | _ | _ | _ | j <;> first | rfl | omega)).set8 6 x6 [x0, x1, x2, x3, x4, x5, x6, y7] (fun j hj => by rcases j with _ | _ | _ | _ | _ | _ | _ | _ | j <;> first | rfl | omega)).set8 7 x7 [x0, x1, x2, x3, x4, x5, x6, x7] (fun j hj => by rcases j with _ | _ | _ | _ | _ | _ | _ | _ | j <;> first | rfl | omega))
theorem ok_A {op n : Int} {s d : Od} (h : 1 ≤ op ∧ op ≤ 6) (hs : s.ok = true) (hd : d.ok = true) (hn : n = 0) : Is.ok ⟨op, s, d, n⟩ = true := by
  unfold Is.ok
  rw [if_pos (inB_t _ _ _ h)]
  simp [hs, hd, hn]
theorem ok_B {op n : Int} {d : Od} (h : 7 ≤ op ∧ op ≤ 14) (hd : d.ok = true) (hn : n = 0) : Is.ok ⟨op, ⟨0, 0, 0⟩, d, n⟩ = true := by
  unfold Is.ok
  rw [if_neg (by rw [inB_f _ _ _ (by simp only; omega)]; simp), if_pos (inB_t _ _ _ h)]
  simp [hd, hn, Od.zero]
theorem ok_C {op n : Int} {d : Od} (h : op = 15) (hd : d.ok = true) (hn : 0 ≤ n ∧ n ≤ 7) : Is.ok ⟨op, ⟨0, 0, 0⟩, d, n⟩ = true := by
  subst h
  simp [Is.ok, inB, Od.zero, hd, hn.1, hn.2]
theorem ok_D {op n : Int} (h : op = 16) (hn : 0 ≤ n ∧ n ≤ 7) : Is.ok ⟨op, ⟨0, 0, 0⟩, ⟨0, 0, 0⟩, n⟩ = true := by
  subst h
  simp [Is.ok, inB, Od.zero, hn.1, hn.2]
theorem ok_E {op n : Int} (h : 17 ≤ op ∧ op ≤ 21) (hn : -128 ≤ n ∧ n ≤ 127) : Is.ok ⟨op, ⟨0, 0, 0⟩, ⟨0, 0, 0⟩, n⟩ = true := by
  unfold Is.ok
  rw [if_neg (by rw [inB_f _ _ _ (by simp only; omega)]; simp), if_neg (by rw [inB_f _ _ _ (by simp only; omega)]; simp), if_neg (by simp only; rw [eqB_f _ _ (by omega)]; simp), if_neg (by simp [Od.zero]), if_neg (by simp only; rw [eqB_f _ _ (by omega)]; simp), if_pos (inB_t _ _ _ h), inB_t _ _ _ hn]
theorem ok_F {op : Int} (h : op = 22) : Is.ok ⟨op, ⟨0, 0, 0⟩, ⟨0, 0, 0⟩, 0⟩ = true := by
  subst h
  rfl
theorem ok_G {op n : Int} (h : op = 23) (hn : 0 ≤ n ∧ n ≤ 255) : Is.ok ⟨op, ⟨0, 0, 0⟩, ⟨0, 0, 0⟩, n⟩ = true := by
  subst h
  simp [Is.ok, inB, Od.zero, hn.1, hn.2]
theorem ns7_bd : ∀ i : Fin 7, -128 ≤ nAt [-128, 127, 0, -1, 1, 2, -3] i.val ∧ nAt [-128, 127, 0, -1, 1, 2, -3] i.val ≤ 127 := by decide +kernel
theorem ns4_bd : ∀ i : Fin 4, 0 ≤ nAt [0, 1, 2, 255] i.val ∧ nAt [0, 1, 2, 255] i.val ≤ 255 := by decide +kernel

set_option maxHeartbeats 8000000 in
set_option maxRecDepth 100000 in
theorem drawD_any (cb : Nat) (a : Option Addr) (len cap : Nat) (xs : List UInt8) (w : World) (hc : Cur w cb a len cap xs) :
    Calls Try.prog 80 #[.pointer (some ⟨cb, 0, none⟩)] w fun e w' => ∃ i : Is, i.ok = true ∧ e = .returned i.v ∧ Cur w' cb a len cap xs ∧ w.grownBy w' (some cb) := by
  have hlt := hc.lt
  have E0 := hide (ez_new hc (cs8 [0, 0, 0, 0, 0, 0, 0, 0]) 92 8 (c8 [0, 0, 0, 0, 0, 0, 0, 0]) (row8 w [0, 0, 0, 0, 0, 0, 0, 0] 92))
  have I0 := hide (below_any cb a len cap xs 23 (w.alloc (Obj.cells (cs8 [0, 0, 0, 0, 0, 0, 0, 0]) 92)) (by omega) (unhide E0).cur)
  clear hc
  go_enter Try.func80, Try.ntmps80
  go_wp2_with fail
  refine (unhide I0).mono ?_
  rintro e w1 ⟨y, hy0, hy1, rfl, hc1, hg1⟩
  obtain ⟨hy2, hy3⟩ := hy0 (by omega)
  obtain ⟨op, hop⟩ : ∃ op, 1 + y = op := ⟨_, rfl⟩
  have hob : 1 ≤ op ∧ op ≤ 23 := by omega
  have E1' := hide ((unhide E0).draw hc1 hg1)
  have E1 := hide ((unhide E1').alloc (Obj.cells (cs8 [op, 0, 0, 0, 0, 0, 0, 0]) 92))
  have R1 := hide (row8 w1 [op, 0, 0, 0, 0, 0, 0, 0] 92)
  have s1 : w.heap.size < w1.heap.size := (unhide E1').res.lt
  have hne : w.heap.size ≠ w1.heap.size := by omega
  clear hc1 hg1 I0 E0 hy0 hy1
  by_cases hA : op ≤ 6
  · have q6 : decide (op ≤ 6) = true := by simp; omega
    have q15 : decide (op ≤ 15) = true := by simp; omega
    have q1 : (op == 15) = false := eqB_f _ _ (by omega)
    have q2 : (op == 16) = false := eqB_f _ _ (by omega)
    have q3 : inB op 17 21 = false := inB_f _ _ _ (by omega)
    have q4 : (op == 23) = false := eqB_f _ _ (by omega)
    have P2 := hide (opdD_any cb a len cap xs _ (unhide E1).cur)
    go_wp2_with fail
    refine (unhide P2).mono ?_
    rintro e w2 ⟨⟨sm, sr, sx⟩, oks, rfl, hc, hg⟩
    unfold Od.v
    simp only
    have EE := hide ((unhide E1).draw hc hg)
    have RR := hide (row_draw (unhide R1) hg (by omega))
    clear hc hg P2
    have rr := unhide RR
    have x0 : w2.cell? ⟨w1.heap.size, 0, none⟩ = some (.int .i64 (op)) := rr.cell (i := 0) (by omega)
    have g0 := rr.frozen 0
    have x1 : w2.cell? ⟨w1.heap.size, 1, none⟩ = some (.int .i64 (0)) := rr.cell (i := 1) (by omega)
    have g1 := rr.frozen 1
    have x2 : w2.cell? ⟨w1.heap.size, 2, none⟩ = some (.int .i64 (0)) := rr.cell (i := 2) (by omega)
    have g2 := rr.frozen 2
    have x3 : w2.cell? ⟨w1.heap.size, 3, none⟩ = some (.int .i64 (0)) := rr.cell (i := 3) (by omega)
    have g3 := rr.frozen 3
    have x4 : w2.cell? ⟨w1.heap.size, 4, none⟩ = some (.int .i64 (0)) := rr.cell (i := 4) (by omega)
    have g4 := rr.frozen 4
    have x5 : w2.cell? ⟨w1.heap.size, 5, none⟩ = some (.int .i64 (0)) := rr.cell (i := 5) (by omega)
    have g5 := rr.frozen 5
    have x6 : w2.cell? ⟨w1.heap.size, 6, none⟩ = some (.int .i64 (0)) := rr.cell (i := 6) (by omega)
    have g6 := rr.frozen 6
    have x7 : w2.cell? ⟨w1.heap.size, 7, none⟩ = some (.int .i64 (0)) := rr.cell (i := 7) (by omega)
    have g7 := rr.frozen 7
    clear rr
    have E2 := hide ((((unhide EE).setO s1 1 (.int .i64 sm)).setO s1 2 (.int .i64 sr)).setO s1 3 (.int .i64 sx))
    have R2 := hide (row8_set (l' := [op, sm, sr, sx, 0, 0, 0, 0]) (row8_set (l' := [op, sm, sr, 0, 0, 0, 0, 0]) (row8_set (l' := [op, sm, 0, 0, 0, 0, 0, 0]) (unhide RR) 1 sm (fun j hj => by rcases j with _ | _ | _ | _ | _ | _ | _ | _ | j <;> first | rfl | omega)) 2 sr (fun j hj => by rcases j with _ | _ | _ | _ | _ | _ | _ | _ | j <;> first | rfl | omega)) 3 sx (fun j hj => by rcases j with _ | _ | _ | _ | _ | _ | _ | _ | j <;> first | rfl | omega))
    have EB2 := EE
    clear EE RR
    have P3 := hide (opdD_any cb a len cap xs _ (unhide E2).cur)
    go_wp2_with fail
    refine (unhide P3).mono ?_
    rintro e w3 ⟨⟨dm, dr, dx⟩, okd, rfl, hc, hg⟩
    unfold Od.v
    simp only
    have EE := hide ((unhide E2).draw hc hg)
    have RR := hide (row_draw (unhide R2) hg (by omega))
    clear hc hg P3
    clear x0 g0 x1 g1 x2 g2 x3 g3 x4 g4 x5 g5 x6 g6 x7 g7
    have rr := unhide RR
    have x0 : w3.cell? ⟨w1.heap.size, 0, none⟩ = some (.int .i64 (op)) := rr.cell (i := 0) (by omega)
    have g0 := rr.frozen 0
    have x1 : w3.cell? ⟨w1.heap.size, 1, none⟩ = some (.int .i64 (sm)) := rr.cell (i := 1) (by omega)
    have g1 := rr.frozen 1
    have x2 : w3.cell? ⟨w1.heap.size, 2, none⟩ = some (.int .i64 (sr)) := rr.cell (i := 2) (by omega)
    have g2 := rr.frozen 2
    have x3 : w3.cell? ⟨w1.heap.size, 3, none⟩ = some (.int .i64 (sx)) := rr.cell (i := 3) (by omega)
    have g3 := rr.frozen 3
    have x4 : w3.cell? ⟨w1.heap.size, 4, none⟩ = some (.int .i64 (0)) := rr.cell (i := 4) (by omega)
    have g4 := rr.frozen 4
    have x5 : w3.cell? ⟨w1.heap.size, 5, none⟩ = some (.int .i64 (0)) := rr.cell (i := 5) (by omega)
    have g5 := rr.frozen 5
    have x6 : w3.cell? ⟨w1.heap.size, 6, none⟩ = some (.int .i64 (0)) := rr.cell (i := 6) (by omega)
    have g6 := rr.frozen 6
    have x7 : w3.cell? ⟨w1.heap.size, 7, none⟩ = some (.int .i64 (0)) := rr.cell (i := 7) (by omega)
    have g7 := rr.frozen 7
    clear rr
    have E3 := hide ((((unhide EE).setO s1 4 (.int .i64 dm)).setO s1 5 (.int .i64 dr)).setO s1 6 (.int .i64 dx))
    have R3 := hide (row8_set (l' := [op, sm, sr, sx, dm, dr, dx, 0]) (row8_set (l' := [op, sm, sr, sx, dm, dr, 0, 0]) (row8_set (l' := [op, sm, sr, sx, dm, 0, 0, 0]) (unhide RR) 4 dm (fun j hj => by rcases j with _ | _ | _ | _ | _ | _ | _ | _ | j <;> first | rfl | omega)) 5 dr (fun j hj => by rcases j with _ | _ | _ | _ | _ | _ | _ | _ | j <;> first | rfl | omega)) 6 dx (fun j hj => by rcases j with _ | _ | _ | _ | _ | _ | _ | _ | j <;> first | rfl | omega))
    have EB3 := EE
    clear EE RR
    have ee := (unhide EB3).res
    have c0 : w3.cell? ⟨w.heap.size, 0, none⟩ = some (.int .i64 0) := ee.cell (i := 0) (by omega)
    have f0 := ee.frozen 0
    have c1 : w3.cell? ⟨w.heap.size, 1, none⟩ = some (.int .i64 0) := ee.cell (i := 1) (by omega)
    have f1 := ee.frozen 1
    have c2 : w3.cell? ⟨w.heap.size, 2, none⟩ = some (.int .i64 0) := ee.cell (i := 2) (by omega)
    have f2 := ee.frozen 2
    have c3 : w3.cell? ⟨w.heap.size, 3, none⟩ = some (.int .i64 0) := ee.cell (i := 3) (by omega)
    have f3 := ee.frozen 3
    have c4 : w3.cell? ⟨w.heap.size, 4, none⟩ = some (.int .i64 0) := ee.cell (i := 4) (by omega)
    have f4 := ee.frozen 4
    have c5 : w3.cell? ⟨w.heap.size, 5, none⟩ = some (.int .i64 0) := ee.cell (i := 5) (by omega)
    have f5 := ee.frozen 5
    have c6 : w3.cell? ⟨w.heap.size, 6, none⟩ = some (.int .i64 0) := ee.cell (i := 6) (by omega)
    have f6 := ee.frozen 6
    have c7 : w3.cell? ⟨w.heap.size, 7, none⟩ = some (.int .i64 0) := ee.cell (i := 7) (by omega)
    have f7 := ee.frozen 7
    clear ee
    have EF := hide ((unhide E3).put8 (op) (sm) (sr) (sx) (dm) (dr) (dx) (0))
    go_wp2_with (go_at_call 59; refine (in_any _ _ _ _).mono ?_; rintro e w' ⟨rfl, hw'⟩; rw [hw']; clear hw' w')
    refine bodyPost_ret (results_cell_row (P := Try.prog) rfl _ _ w.heap.size 92 (cs8 [op, sm, sr, sx, dm, dr, dx, 0]) (0, 0) _ rfl (row8_heap (unhide EF).res) Try.underlying92 rfl (by kernel_rfl)) rfl ?_
    exact ⟨⟨op, ⟨sm, sr, sx⟩, ⟨dm, dr, dx⟩, 0⟩, ok_A (by omega) oks okd rfl, rfl, (unhide EF).cur, (unhide EF).gr⟩
  by_cases hB : op ≤ 14
  · have q6 : decide (op ≤ 6) = false := by simp; omega
    have q15 : decide (op ≤ 15) = true := by simp; omega
    have q1 : (op == 15) = false := eqB_f _ _ (by omega)
    have q2 : (op == 16) = false := eqB_f _ _ (by omega)
    have q3 : inB op 17 21 = false := inB_f _ _ _ (by omega)
    have q4 : (op == 23) = false := eqB_f _ _ (by omega)
    have P2 := hide (opdD_any cb a len cap xs _ (unhide E1).cur)
    go_wp2_with fail
    refine (unhide P2).mono ?_
    rintro e w2 ⟨⟨dm, dr, dx⟩, okd, rfl, hc, hg⟩
    unfold Od.v
    simp only
    have EE := hide ((unhide E1).draw hc hg)
    have RR := hide (row_draw (unhide R1) hg (by omega))
    clear hc hg P2
    have rr := unhide RR
    have x0 : w2.cell? ⟨w1.heap.size, 0, none⟩ = some (.int .i64 (op)) := rr.cell (i := 0) (by omega)
    have g0 := rr.frozen 0
    have x1 : w2.cell? ⟨w1.heap.size, 1, none⟩ = some (.int .i64 (0)) := rr.cell (i := 1) (by omega)
    have g1 := rr.frozen 1
    have x2 : w2.cell? ⟨w1.heap.size, 2, none⟩ = some (.int .i64 (0)) := rr.cell (i := 2) (by omega)
    have g2 := rr.frozen 2
    have x3 : w2.cell? ⟨w1.heap.size, 3, none⟩ = some (.int .i64 (0)) := rr.cell (i := 3) (by omega)
    have g3 := rr.frozen 3
    have x4 : w2.cell? ⟨w1.heap.size, 4, none⟩ = some (.int .i64 (0)) := rr.cell (i := 4) (by omega)
    have g4 := rr.frozen 4
    have x5 : w2.cell? ⟨w1.heap.size, 5, none⟩ = some (.int .i64 (0)) := rr.cell (i := 5) (by omega)
    have g5 := rr.frozen 5
    have x6 : w2.cell? ⟨w1.heap.size, 6, none⟩ = some (.int .i64 (0)) := rr.cell (i := 6) (by omega)
    have g6 := rr.frozen 6
    have x7 : w2.cell? ⟨w1.heap.size, 7, none⟩ = some (.int .i64 (0)) := rr.cell (i := 7) (by omega)
    have g7 := rr.frozen 7
    clear rr
    have E2 := hide ((((unhide EE).setO s1 4 (.int .i64 dm)).setO s1 5 (.int .i64 dr)).setO s1 6 (.int .i64 dx))
    have R2 := hide (row8_set (l' := [op, 0, 0, 0, dm, dr, dx, 0]) (row8_set (l' := [op, 0, 0, 0, dm, dr, 0, 0]) (row8_set (l' := [op, 0, 0, 0, dm, 0, 0, 0]) (unhide RR) 4 dm (fun j hj => by rcases j with _ | _ | _ | _ | _ | _ | _ | _ | j <;> first | rfl | omega)) 5 dr (fun j hj => by rcases j with _ | _ | _ | _ | _ | _ | _ | _ | j <;> first | rfl | omega)) 6 dx (fun j hj => by rcases j with _ | _ | _ | _ | _ | _ | _ | _ | j <;> first | rfl | omega))
    have EB2 := EE
    clear EE RR
    have ee := (unhide EB2).res
    have c0 : w2.cell? ⟨w.heap.size, 0, none⟩ = some (.int .i64 0) := ee.cell (i := 0) (by omega)
    have f0 := ee.frozen 0
    have c1 : w2.cell? ⟨w.heap.size, 1, none⟩ = some (.int .i64 0) := ee.cell (i := 1) (by omega)
    have f1 := ee.frozen 1
    have c2 : w2.cell? ⟨w.heap.size, 2, none⟩ = some (.int .i64 0) := ee.cell (i := 2) (by omega)
    have f2 := ee.frozen 2
    have c3 : w2.cell? ⟨w.heap.size, 3, none⟩ = some (.int .i64 0) := ee.cell (i := 3) (by omega)
    have f3 := ee.frozen 3
    have c4 : w2.cell? ⟨w.heap.size, 4, none⟩ = some (.int .i64 0) := ee.cell (i := 4) (by omega)
    have f4 := ee.frozen 4
    have c5 : w2.cell? ⟨w.heap.size, 5, none⟩ = some (.int .i64 0) := ee.cell (i := 5) (by omega)
    have f5 := ee.frozen 5
    have c6 : w2.cell? ⟨w.heap.size, 6, none⟩ = some (.int .i64 0) := ee.cell (i := 6) (by omega)
    have f6 := ee.frozen 6
    have c7 : w2.cell? ⟨w.heap.size, 7, none⟩ = some (.int .i64 0) := ee.cell (i := 7) (by omega)
    have f7 := ee.frozen 7
    clear ee
    have EF := hide ((unhide E2).put8 (op) (0) (0) (0) (dm) (dr) (dx) (0))
    go_wp2_with (go_at_call 59; refine (in_any _ _ _ _).mono ?_; rintro e w' ⟨rfl, hw'⟩; rw [hw']; clear hw' w')
    refine bodyPost_ret (results_cell_row (P := Try.prog) rfl _ _ w.heap.size 92 (cs8 [op, 0, 0, 0, dm, dr, dx, 0]) (0, 0) _ rfl (row8_heap (unhide EF).res) Try.underlying92 rfl (by kernel_rfl)) rfl ?_
    exact ⟨⟨op, ⟨0, 0, 0⟩, ⟨dm, dr, dx⟩, 0⟩, ok_B (by omega) okd rfl, rfl, (unhide EF).cur, (unhide EF).gr⟩
  by_cases hC : op ≤ 15
  · have q6 : decide (op ≤ 6) = false := by simp; omega
    have q15 : decide (op ≤ 15) = true := by simp; omega
    have q1 : (op == 15) = true := eqB_t _ _ (by omega)
    have P2 := hide (opdD_any cb a len cap xs _ (unhide E1).cur)
    go_wp2_with fail
    refine (unhide P2).mono ?_
    rintro e w2 ⟨⟨dm, dr, dx⟩, okd, rfl, hc, hg⟩
    unfold Od.v
    simp only
    have EE := hide ((unhide E1).draw hc hg)
    have RR := hide (row_draw (unhide R1) hg (by omega))
    clear hc hg P2
    have rr := unhide RR
    have x0 : w2.cell? ⟨w1.heap.size, 0, none⟩ = some (.int .i64 (op)) := rr.cell (i := 0) (by omega)
    have g0 := rr.frozen 0
    have x1 : w2.cell? ⟨w1.heap.size, 1, none⟩ = some (.int .i64 (0)) := rr.cell (i := 1) (by omega)
    have g1 := rr.frozen 1
    have x2 : w2.cell? ⟨w1.heap.size, 2, none⟩ = some (.int .i64 (0)) := rr.cell (i := 2) (by omega)
    have g2 := rr.frozen 2
    have x3 : w2.cell? ⟨w1.heap.size, 3, none⟩ = some (.int .i64 (0)) := rr.cell (i := 3) (by omega)
    have g3 := rr.frozen 3
    have x4 : w2.cell? ⟨w1.heap.size, 4, none⟩ = some (.int .i64 (0)) := rr.cell (i := 4) (by omega)
    have g4 := rr.frozen 4
    have x5 : w2.cell? ⟨w1.heap.size, 5, none⟩ = some (.int .i64 (0)) := rr.cell (i := 5) (by omega)
    have g5 := rr.frozen 5
    have x6 : w2.cell? ⟨w1.heap.size, 6, none⟩ = some (.int .i64 (0)) := rr.cell (i := 6) (by omega)
    have g6 := rr.frozen 6
    have x7 : w2.cell? ⟨w1.heap.size, 7, none⟩ = some (.int .i64 (0)) := rr.cell (i := 7) (by omega)
    have g7 := rr.frozen 7
    clear rr
    have E2 := hide ((((unhide EE).setO s1 4 (.int .i64 dm)).setO s1 5 (.int .i64 dr)).setO s1 6 (.int .i64 dx))
    have R2 := hide (row8_set (l' := [op, 0, 0, 0, dm, dr, dx, 0]) (row8_set (l' := [op, 0, 0, 0, dm, dr, 0, 0]) (row8_set (l' := [op, 0, 0, 0, dm, 0, 0, 0]) (unhide RR) 4 dm (fun j hj => by rcases j with _ | _ | _ | _ | _ | _ | _ | _ | j <;> first | rfl | omega)) 5 dr (fun j hj => by rcases j with _ | _ | _ | _ | _ | _ | _ | _ | j <;> first | rfl | omega)) 6 dx (fun j hj => by rcases j with _ | _ | _ | _ | _ | _ | _ | _ | j <;> first | rfl | omega))
    have EB2 := EE
    clear EE RR
    have P9 := hide (below_any cb a len cap xs 8 _ (by omega) (unhide E2).cur)
    go_wp2_with (go_at_call 59; refine (in_any _ _ _ _).mono ?_; rintro e w' ⟨rfl, hw'⟩; rw [hw']; clear hw' w')
    refine (unhide P9).mono ?_
    rintro e w9 ⟨n, hn0, hn1, rfl, hc, hg⟩
    obtain ⟨hn2, hn3⟩ := hn0 (by omega)
    have E9' := hide ((unhide E2).draw hc hg)
    have R9 := hide (row_draw (unhide R2) hg (by omega))
    clear hc hg P9 hn0 hn1
    clear x0 g0 x1 g1 x2 g2 x3 g3 x4 g4 x5 g5 x6 g6 x7 g7
    have rr := unhide R9
    have x0 : w9.cell? ⟨w1.heap.size, 0, none⟩ = some (.int .i64 (op)) := rr.cell (i := 0) (by omega)
    have g0 := rr.frozen 0
    have x1 : w9.cell? ⟨w1.heap.size, 1, none⟩ = some (.int .i64 (0)) := rr.cell (i := 1) (by omega)
    have g1 := rr.frozen 1
    have x2 : w9.cell? ⟨w1.heap.size, 2, none⟩ = some (.int .i64 (0)) := rr.cell (i := 2) (by omega)
    have g2 := rr.frozen 2
    have x3 : w9.cell? ⟨w1.heap.size, 3, none⟩ = some (.int .i64 (0)) := rr.cell (i := 3) (by omega)
    have g3 := rr.frozen 3
    have x4 : w9.cell? ⟨w1.heap.size, 4, none⟩ = some (.int .i64 (dm)) := rr.cell (i := 4) (by omega)
    have g4 := rr.frozen 4
    have x5 : w9.cell? ⟨w1.heap.size, 5, none⟩ = some (.int .i64 (dr)) := rr.cell (i := 5) (by omega)
    have g5 := rr.frozen 5
    have x6 : w9.cell? ⟨w1.heap.size, 6, none⟩ = some (.int .i64 (dx)) := rr.cell (i := 6) (by omega)
    have g6 := rr.frozen 6
    have x7 : w9.cell? ⟨w1.heap.size, 7, none⟩ = some (.int .i64 (0)) := rr.cell (i := 7) (by omega)
    have g7 := rr.frozen 7
    clear rr
    have E9 := hide ((unhide E9').setO s1 7 (.int .i64 n))
    have ee := (unhide E9').res
    have c0 : w9.cell? ⟨w.heap.size, 0, none⟩ = some (.int .i64 0) := ee.cell (i := 0) (by omega)
    have f0 := ee.frozen 0
    have c1 : w9.cell? ⟨w.heap.size, 1, none⟩ = some (.int .i64 0) := ee.cell (i := 1) (by omega)
    have f1 := ee.frozen 1
    have c2 : w9.cell? ⟨w.heap.size, 2, none⟩ = some (.int .i64 0) := ee.cell (i := 2) (by omega)
    have f2 := ee.frozen 2
    have c3 : w9.cell? ⟨w.heap.size, 3, none⟩ = some (.int .i64 0) := ee.cell (i := 3) (by omega)
    have f3 := ee.frozen 3
    have c4 : w9.cell? ⟨w.heap.size, 4, none⟩ = some (.int .i64 0) := ee.cell (i := 4) (by omega)
    have f4 := ee.frozen 4
    have c5 : w9.cell? ⟨w.heap.size, 5, none⟩ = some (.int .i64 0) := ee.cell (i := 5) (by omega)
    have f5 := ee.frozen 5
    have c6 : w9.cell? ⟨w.heap.size, 6, none⟩ = some (.int .i64 0) := ee.cell (i := 6) (by omega)
    have f6 := ee.frozen 6
    have c7 : w9.cell? ⟨w.heap.size, 7, none⟩ = some (.int .i64 0) := ee.cell (i := 7) (by omega)
    have f7 := ee.frozen 7
    clear ee
    have EF := hide ((unhide E9).put8 (op) (0) (0) (0) (dm) (dr) (dx) (n))
    go_wp2_with (go_at_call 59; refine (in_any _ _ _ _).mono ?_; rintro e w' ⟨rfl, hw'⟩; rw [hw']; clear hw' w')
    refine bodyPost_ret (results_cell_row (P := Try.prog) rfl _ _ w.heap.size 92 (cs8 [op, 0, 0, 0, dm, dr, dx, n]) (0, 0) _ rfl (row8_heap (unhide EF).res) Try.underlying92 rfl (by kernel_rfl)) rfl ?_
    exact ⟨⟨op, ⟨0, 0, 0⟩, ⟨dm, dr, dx⟩, n⟩, ok_C (by omega) okd (by omega), rfl, (unhide EF).cur, (unhide EF).gr⟩
  by_cases hD : op ≤ 16
  · have q6 : decide (op ≤ 6) = false := by simp; omega
    have q15 : decide (op ≤ 15) = false := by simp; omega
    have q1 : (op == 15) = false := eqB_f _ _ (by omega)
    have q2 : (op == 16) = true := eqB_t _ _ (by omega)
    have P9 := hide (below_any cb a len cap xs 8 _ (by omega) (unhide E1).cur)
    go_wp2_with (go_at_call 59; refine (in_any _ _ _ _).mono ?_; rintro e w' ⟨rfl, hw'⟩; rw [hw']; clear hw' w')
    refine (unhide P9).mono ?_
    rintro e w9 ⟨n, hn0, hn1, rfl, hc, hg⟩
    obtain ⟨hn2, hn3⟩ := hn0 (by omega)
    have E9' := hide ((unhide E1).draw hc hg)
    have R9 := hide (row_draw (unhide R1) hg (by omega))
    clear hc hg P9 hn0 hn1
    have rr := unhide R9
    have x0 : w9.cell? ⟨w1.heap.size, 0, none⟩ = some (.int .i64 (op)) := rr.cell (i := 0) (by omega)
    have g0 := rr.frozen 0
    have x1 : w9.cell? ⟨w1.heap.size, 1, none⟩ = some (.int .i64 (0)) := rr.cell (i := 1) (by omega)
    have g1 := rr.frozen 1
    have x2 : w9.cell? ⟨w1.heap.size, 2, none⟩ = some (.int .i64 (0)) := rr.cell (i := 2) (by omega)
    have g2 := rr.frozen 2
    have x3 : w9.cell? ⟨w1.heap.size, 3, none⟩ = some (.int .i64 (0)) := rr.cell (i := 3) (by omega)
    have g3 := rr.frozen 3
    have x4 : w9.cell? ⟨w1.heap.size, 4, none⟩ = some (.int .i64 (0)) := rr.cell (i := 4) (by omega)
    have g4 := rr.frozen 4
    have x5 : w9.cell? ⟨w1.heap.size, 5, none⟩ = some (.int .i64 (0)) := rr.cell (i := 5) (by omega)
    have g5 := rr.frozen 5
    have x6 : w9.cell? ⟨w1.heap.size, 6, none⟩ = some (.int .i64 (0)) := rr.cell (i := 6) (by omega)
    have g6 := rr.frozen 6
    have x7 : w9.cell? ⟨w1.heap.size, 7, none⟩ = some (.int .i64 (0)) := rr.cell (i := 7) (by omega)
    have g7 := rr.frozen 7
    clear rr
    have E9 := hide ((unhide E9').setO s1 7 (.int .i64 n))
    have ee := (unhide E9').res
    have c0 : w9.cell? ⟨w.heap.size, 0, none⟩ = some (.int .i64 0) := ee.cell (i := 0) (by omega)
    have f0 := ee.frozen 0
    have c1 : w9.cell? ⟨w.heap.size, 1, none⟩ = some (.int .i64 0) := ee.cell (i := 1) (by omega)
    have f1 := ee.frozen 1
    have c2 : w9.cell? ⟨w.heap.size, 2, none⟩ = some (.int .i64 0) := ee.cell (i := 2) (by omega)
    have f2 := ee.frozen 2
    have c3 : w9.cell? ⟨w.heap.size, 3, none⟩ = some (.int .i64 0) := ee.cell (i := 3) (by omega)
    have f3 := ee.frozen 3
    have c4 : w9.cell? ⟨w.heap.size, 4, none⟩ = some (.int .i64 0) := ee.cell (i := 4) (by omega)
    have f4 := ee.frozen 4
    have c5 : w9.cell? ⟨w.heap.size, 5, none⟩ = some (.int .i64 0) := ee.cell (i := 5) (by omega)
    have f5 := ee.frozen 5
    have c6 : w9.cell? ⟨w.heap.size, 6, none⟩ = some (.int .i64 0) := ee.cell (i := 6) (by omega)
    have f6 := ee.frozen 6
    have c7 : w9.cell? ⟨w.heap.size, 7, none⟩ = some (.int .i64 0) := ee.cell (i := 7) (by omega)
    have f7 := ee.frozen 7
    clear ee
    have EF := hide ((unhide E9).put8 (op) (0) (0) (0) (0) (0) (0) (n))
    go_wp2_with (go_at_call 59; refine (in_any _ _ _ _).mono ?_; rintro e w' ⟨rfl, hw'⟩; rw [hw']; clear hw' w')
    refine bodyPost_ret (results_cell_row (P := Try.prog) rfl _ _ w.heap.size 92 (cs8 [op, 0, 0, 0, 0, 0, 0, n]) (0, 0) _ rfl (row8_heap (unhide EF).res) Try.underlying92 rfl (by kernel_rfl)) rfl ?_
    exact ⟨⟨op, ⟨0, 0, 0⟩, ⟨0, 0, 0⟩, n⟩, ok_D (by omega) (by omega), rfl, (unhide EF).cur, (unhide EF).gr⟩
  by_cases hE : op ≤ 21
  · have q6 : decide (op ≤ 6) = false := by simp; omega
    have q15 : decide (op ≤ 15) = false := by simp; omega
    have q1 : (op == 15) = false := eqB_f _ _ (by omega)
    have q2 : (op == 16) = false := eqB_f _ _ (by omega)
    have q3 : inB op 17 21 = true := inB_t _ _ _ (by omega)
    have P9 := hide (int_lit cb a len cap xs (w1.alloc (Obj.cells (cs8 [op, 0, 0, 0, 0, 0, 0, 0]) 92)) (unhide E1).cur [-128, 127, 0, -1, 1, 2, -3] 7 rfl (by omega) (by omega) (w1.heap.size + 1) (by simp) _ rfl)
    go_wp2_with (go_at_call 59; refine (in_any _ _ _ _).mono ?_; rintro e w' ⟨rfl, hw'⟩; rw [hw']; clear hw' w')
    refine (unhide P9).mono ?_
    rintro e w9 ⟨j, hj, rfl, hc, hg⟩
    have hnb := ns7_bd ⟨j, hj⟩
    simp only at hnb
    generalize nAt [-128, 127, 0, -1, 1, 2, -3] j = n at hnb ⊢
    have E9' := hide (((unhide E1).alloc _).draw hc hg)
    have R9 := hide (row_draw (row_alloc (unhide R1) _) hg (by omega))
    clear hc hg P9 hj
    have rr := unhide R9
    have x0 : w9.cell? ⟨w1.heap.size, 0, none⟩ = some (.int .i64 (op)) := rr.cell (i := 0) (by omega)
    have g0 := rr.frozen 0
    have x1 : w9.cell? ⟨w1.heap.size, 1, none⟩ = some (.int .i64 (0)) := rr.cell (i := 1) (by omega)
    have g1 := rr.frozen 1
    have x2 : w9.cell? ⟨w1.heap.size, 2, none⟩ = some (.int .i64 (0)) := rr.cell (i := 2) (by omega)
    have g2 := rr.frozen 2
    have x3 : w9.cell? ⟨w1.heap.size, 3, none⟩ = some (.int .i64 (0)) := rr.cell (i := 3) (by omega)
    have g3 := rr.frozen 3
    have x4 : w9.cell? ⟨w1.heap.size, 4, none⟩ = some (.int .i64 (0)) := rr.cell (i := 4) (by omega)
    have g4 := rr.frozen 4
    have x5 : w9.cell? ⟨w1.heap.size, 5, none⟩ = some (.int .i64 (0)) := rr.cell (i := 5) (by omega)
    have g5 := rr.frozen 5
    have x6 : w9.cell? ⟨w1.heap.size, 6, none⟩ = some (.int .i64 (0)) := rr.cell (i := 6) (by omega)
    have g6 := rr.frozen 6
    have x7 : w9.cell? ⟨w1.heap.size, 7, none⟩ = some (.int .i64 (0)) := rr.cell (i := 7) (by omega)
    have g7 := rr.frozen 7
    clear rr
    have E9 := hide ((unhide E9').setO s1 7 (.int .i64 n))
    have ee := (unhide E9').res
    have c0 : w9.cell? ⟨w.heap.size, 0, none⟩ = some (.int .i64 0) := ee.cell (i := 0) (by omega)
    have f0 := ee.frozen 0
    have c1 : w9.cell? ⟨w.heap.size, 1, none⟩ = some (.int .i64 0) := ee.cell (i := 1) (by omega)
    have f1 := ee.frozen 1
    have c2 : w9.cell? ⟨w.heap.size, 2, none⟩ = some (.int .i64 0) := ee.cell (i := 2) (by omega)
    have f2 := ee.frozen 2
    have c3 : w9.cell? ⟨w.heap.size, 3, none⟩ = some (.int .i64 0) := ee.cell (i := 3) (by omega)
    have f3 := ee.frozen 3
    have c4 : w9.cell? ⟨w.heap.size, 4, none⟩ = some (.int .i64 0) := ee.cell (i := 4) (by omega)
    have f4 := ee.frozen 4
    have c5 : w9.cell? ⟨w.heap.size, 5, none⟩ = some (.int .i64 0) := ee.cell (i := 5) (by omega)
    have f5 := ee.frozen 5
    have c6 : w9.cell? ⟨w.heap.size, 6, none⟩ = some (.int .i64 0) := ee.cell (i := 6) (by omega)
    have f6 := ee.frozen 6
    have c7 : w9.cell? ⟨w.heap.size, 7, none⟩ = some (.int .i64 0) := ee.cell (i := 7) (by omega)
    have f7 := ee.frozen 7
    clear ee
    have EF := hide ((unhide E9).put8 (op) (0) (0) (0) (0) (0) (0) (n))
    go_wp2_with (go_at_call 59; refine (in_any _ _ _ _).mono ?_; rintro e w' ⟨rfl, hw'⟩; rw [hw']; clear hw' w')
    refine bodyPost_ret (results_cell_row (P := Try.prog) rfl _ _ w.heap.size 92 (cs8 [op, 0, 0, 0, 0, 0, 0, n]) (0, 0) _ rfl (row8_heap (unhide EF).res) Try.underlying92 rfl (by kernel_rfl)) rfl ?_
    exact ⟨⟨op, ⟨0, 0, 0⟩, ⟨0, 0, 0⟩, n⟩, ok_E (by omega) hnb, rfl, (unhide EF).cur, (unhide EF).gr⟩
  by_cases hF : op ≤ 22
  · have q6 : decide (op ≤ 6) = false := by simp; omega
    have q15 : decide (op ≤ 15) = false := by simp; omega
    have q1 : (op == 15) = false := eqB_f _ _ (by omega)
    have q2 : (op == 16) = false := eqB_f _ _ (by omega)
    have q3 : inB op 17 21 = false := inB_f _ _ _ (by omega)
    have q4 : (op == 23) = false := eqB_f _ _ (by omega)
    clear s1 hne
    have ee : ∀ o, (w1.alloc o).rowIs w.heap.size 92 8 (c8 [0, 0, 0, 0, 0, 0, 0, 0]) := fun o => ((unhide E1').alloc o).res
    have c0 : ∀ o, (w1.alloc o).cell? ⟨w.heap.size, 0, none⟩ = some (.int .i64 0) := fun o => (ee o).cell (i := 0) (by omega)
    have f0 : ∀ o, (w1.alloc o).frozen? ⟨w.heap.size, 0, none⟩ = false := fun o => (ee o).frozen 0
    have c1 : ∀ o, (w1.alloc o).cell? ⟨w.heap.size, 1, none⟩ = some (.int .i64 0) := fun o => (ee o).cell (i := 1) (by omega)
    have f1 : ∀ o, (w1.alloc o).frozen? ⟨w.heap.size, 1, none⟩ = false := fun o => (ee o).frozen 1
    have c2 : ∀ o, (w1.alloc o).cell? ⟨w.heap.size, 2, none⟩ = some (.int .i64 0) := fun o => (ee o).cell (i := 2) (by omega)
    have f2 : ∀ o, (w1.alloc o).frozen? ⟨w.heap.size, 2, none⟩ = false := fun o => (ee o).frozen 2
    have c3 : ∀ o, (w1.alloc o).cell? ⟨w.heap.size, 3, none⟩ = some (.int .i64 0) := fun o => (ee o).cell (i := 3) (by omega)
    have f3 : ∀ o, (w1.alloc o).frozen? ⟨w.heap.size, 3, none⟩ = false := fun o => (ee o).frozen 3
    have c4 : ∀ o, (w1.alloc o).cell? ⟨w.heap.size, 4, none⟩ = some (.int .i64 0) := fun o => (ee o).cell (i := 4) (by omega)
    have f4 : ∀ o, (w1.alloc o).frozen? ⟨w.heap.size, 4, none⟩ = false := fun o => (ee o).frozen 4
    have c5 : ∀ o, (w1.alloc o).cell? ⟨w.heap.size, 5, none⟩ = some (.int .i64 0) := fun o => (ee o).cell (i := 5) (by omega)
    have f5 : ∀ o, (w1.alloc o).frozen? ⟨w.heap.size, 5, none⟩ = false := fun o => (ee o).frozen 5
    have c6 : ∀ o, (w1.alloc o).cell? ⟨w.heap.size, 6, none⟩ = some (.int .i64 0) := fun o => (ee o).cell (i := 6) (by omega)
    have f6 : ∀ o, (w1.alloc o).frozen? ⟨w.heap.size, 6, none⟩ = false := fun o => (ee o).frozen 6
    have c7 : ∀ o, (w1.alloc o).cell? ⟨w.heap.size, 7, none⟩ = some (.int .i64 0) := fun o => (ee o).cell (i := 7) (by omega)
    have f7 : ∀ o, (w1.alloc o).frozen? ⟨w.heap.size, 7, none⟩ = false := fun o => (ee o).frozen 7
    clear ee
    have EF := hide ((unhide E1).put8 (op) (0) (0) (0) (0) (0) (0) (0))
    go_wp2_with (go_at_call 59; refine (in_any _ _ _ _).mono ?_; rintro e w' ⟨rfl, hw'⟩; rw [hw']; clear hw' w')
    refine bodyPost_ret (results_cell_row (P := Try.prog) rfl _ _ w.heap.size 92 (cs8 [op, 0, 0, 0, 0, 0, 0, 0]) (0, 0) _ rfl (row8_heap (unhide EF).res) Try.underlying92 rfl (by kernel_rfl)) rfl ?_
    exact ⟨⟨op, ⟨0, 0, 0⟩, ⟨0, 0, 0⟩, 0⟩, ok_F (by omega), rfl, (unhide EF).cur, (unhide EF).gr⟩
  have q6 : decide (op ≤ 6) = false := by simp; omega
  have q15 : decide (op ≤ 15) = false := by simp; omega
  have q1 : (op == 15) = false := eqB_f _ _ (by omega)
  have q2 : (op == 16) = false := eqB_f _ _ (by omega)
  have q3 : inB op 17 21 = false := inB_f _ _ _ (by omega)
  have q4 : (op == 23) = true := eqB_t _ _ (by omega)
  have P9 := hide (int_lit cb a len cap xs (w1.alloc (Obj.cells (cs8 [op, 0, 0, 0, 0, 0, 0, 0]) 92)) (unhide E1).cur [0, 1, 2, 255] 4 rfl (by omega) (by omega) (w1.heap.size + 1) (by simp) _ rfl)
  go_wp2_with (go_at_call 59; refine (in_any _ _ _ _).mono ?_; rintro e w' ⟨rfl, hw'⟩; rw [hw']; clear hw' w')
  refine (unhide P9).mono ?_
  rintro e w9 ⟨j, hj, rfl, hc, hg⟩
  have hnb := ns4_bd ⟨j, hj⟩
  simp only at hnb
  generalize nAt [0, 1, 2, 255] j = n at hnb ⊢
  have E9' := hide (((unhide E1).alloc _).draw hc hg)
  have R9 := hide (row_draw (row_alloc (unhide R1) _) hg (by omega))
  clear hc hg P9 hj
  have rr := unhide R9
  have x0 : w9.cell? ⟨w1.heap.size, 0, none⟩ = some (.int .i64 (op)) := rr.cell (i := 0) (by omega)
  have g0 := rr.frozen 0
  have x1 : w9.cell? ⟨w1.heap.size, 1, none⟩ = some (.int .i64 (0)) := rr.cell (i := 1) (by omega)
  have g1 := rr.frozen 1
  have x2 : w9.cell? ⟨w1.heap.size, 2, none⟩ = some (.int .i64 (0)) := rr.cell (i := 2) (by omega)
  have g2 := rr.frozen 2
  have x3 : w9.cell? ⟨w1.heap.size, 3, none⟩ = some (.int .i64 (0)) := rr.cell (i := 3) (by omega)
  have g3 := rr.frozen 3
  have x4 : w9.cell? ⟨w1.heap.size, 4, none⟩ = some (.int .i64 (0)) := rr.cell (i := 4) (by omega)
  have g4 := rr.frozen 4
  have x5 : w9.cell? ⟨w1.heap.size, 5, none⟩ = some (.int .i64 (0)) := rr.cell (i := 5) (by omega)
  have g5 := rr.frozen 5
  have x6 : w9.cell? ⟨w1.heap.size, 6, none⟩ = some (.int .i64 (0)) := rr.cell (i := 6) (by omega)
  have g6 := rr.frozen 6
  have x7 : w9.cell? ⟨w1.heap.size, 7, none⟩ = some (.int .i64 (0)) := rr.cell (i := 7) (by omega)
  have g7 := rr.frozen 7
  clear rr
  have E9 := hide ((unhide E9').setO s1 7 (.int .i64 n))
  have ee := (unhide E9').res
  have c0 : w9.cell? ⟨w.heap.size, 0, none⟩ = some (.int .i64 0) := ee.cell (i := 0) (by omega)
  have f0 := ee.frozen 0
  have c1 : w9.cell? ⟨w.heap.size, 1, none⟩ = some (.int .i64 0) := ee.cell (i := 1) (by omega)
  have f1 := ee.frozen 1
  have c2 : w9.cell? ⟨w.heap.size, 2, none⟩ = some (.int .i64 0) := ee.cell (i := 2) (by omega)
  have f2 := ee.frozen 2
  have c3 : w9.cell? ⟨w.heap.size, 3, none⟩ = some (.int .i64 0) := ee.cell (i := 3) (by omega)
  have f3 := ee.frozen 3
  have c4 : w9.cell? ⟨w.heap.size, 4, none⟩ = some (.int .i64 0) := ee.cell (i := 4) (by omega)
  have f4 := ee.frozen 4
  have c5 : w9.cell? ⟨w.heap.size, 5, none⟩ = some (.int .i64 0) := ee.cell (i := 5) (by omega)
  have f5 := ee.frozen 5
  have c6 : w9.cell? ⟨w.heap.size, 6, none⟩ = some (.int .i64 0) := ee.cell (i := 6) (by omega)
  have f6 := ee.frozen 6
  have c7 : w9.cell? ⟨w.heap.size, 7, none⟩ = some (.int .i64 0) := ee.cell (i := 7) (by omega)
  have f7 := ee.frozen 7
  clear ee
  have EF := hide ((unhide E9).put8 (op) (0) (0) (0) (0) (0) (0) (n))
  go_wp2_with (go_at_call 59; refine (in_any _ _ _ _).mono ?_; rintro e w' ⟨rfl, hw'⟩; rw [hw']; clear hw' w')
  refine bodyPost_ret (results_cell_row (P := Try.prog) rfl _ _ w.heap.size 92 (cs8 [op, 0, 0, 0, 0, 0, 0, n]) (0, 0) _ rfl (row8_heap (unhide EF).res) Try.underlying92 rfl (by kernel_rfl)) rfl ?_
  exact ⟨⟨op, ⟨0, 0, 0⟩, ⟨0, 0, 0⟩, n⟩, ok_G (by omega) hnb, rfl, (unhide EF).cur, (unhide EF).gr⟩
end Go.Proofs.Ytfkmibgamkignaa

namespace Go.Proofs.Ytfkmibgamkignaa
open Go.ChangeShapes Go.WideShapes Go.ChangeAt Go.RowKit
set_option linter.unusedVariables false
set_option maxRecDepth 8000

set_option maxHeartbeats 4000000 in
theorem encS_A (k : Nat) (sm sr sx dm dr dx n : Int) (w : World) (hok : Is.ok ⟨(k : Int), ⟨sm, sr, sx⟩, ⟨dm, dr, dx⟩, n⟩ = true) (h1 : (k : Int) ≤ 6) :
    Calls Try.prog 79 #[.agg #[.int .i64 (k : Int), .int .i64 sm, .int .i64 sr, .int .i64 sx, .int .i64 dm, .int .i64 dr, .int .i64 dx, .int .i64 n]] w fun e w' => ∃ v, e = .returned v ∧ v ≠ .slice none 0 0 ∧ OwnN w' w.heap.size v (Is.code ⟨(k : Int), ⟨sm, sr, sx⟩, ⟨dm, dr, dx⟩, n⟩ :: Is.xs ⟨(k : Int), ⟨sm, sr, sx⟩, ⟨dm, dr, dx⟩, n⟩) ∧ Below w.heap.size w w' := by
  obtain ⟨i0, hi, hz0, hz1, hz2⟩ := info_parts info3
  have HZ := hide (show (w.alloc (Obj.cells #[.int .i64 (k : Int), .int .i64 sm, .int .i64 sr, .int .i64 sx, .int .i64 dm, .int .i64 dr, .int .i64 dx, .int .i64 n] 92)).heap.size = w.heap.size + 1 by simp)
  have HCL := hide (box_cells w #[.int .i64 (k : Int), .int .i64 sm, .int .i64 sr, .int .i64 sx, .int .i64 dm, .int .i64 dr, .int .i64 dx, .int .i64 n] 92)
  have HB := hide (box_below w (Obj.cells #[.int .i64 (k : Int), .int .i64 sm, .int .i64 sr, .int .i64 sx, .int .i64 dm, .int .i64 dr, .int .i64 dx, .int .i64 n] 92))
  have Bz : Below (w.heap.size + 1) (w.alloc (Obj.cells #[.int .i64 (k : Int), .int .i64 sm, .int .i64 sr, .int .i64 sx, .int .i64 dm, .int .i64 dr, .int .i64 dx, .int .i64 n] 92)) (w.alloc (Obj.cells #[.int .i64 (k : Int), .int .i64 sm, .int .i64 sr, .int .i64 sx, .int .i64 dm, .int .i64 dr, .int .i64 dx, .int .i64 n] 92)) := Below.refl _ _
  obtain ⟨⟨q1, q2⟩, q3, q4, q5, q6, q7, q8, q9, q10, q11⟩ := is_ok hok
  simp only at q1 q2 q3 q4 q5 q6 q7 q8 q9 q10 q11
  have hbb := base_bd ⟨k, by omega⟩
  simp only at hbb
  obtain ⟨b, hbk⟩ : ∃ b, baseAt k = b := ⟨_, rfl⟩
  rw [hbk] at hbb
  obtain ⟨p, hp6⟩ : ∃ p, Od.six ⟨sm, sr, sx⟩ = p := ⟨_, rfl⟩
  obtain ⟨q, hq6⟩ : ∃ q, Od.six ⟨dm, dr, dx⟩ = q := ⟨_, rfl⟩
  obtain ⟨sX, hsX⟩ : ∃ q, Od.hasX ⟨sm, sr, sx⟩ = q := ⟨_, rfl⟩
  obtain ⟨dX, hdX⟩ : ∃ q, Od.hasX ⟨dm, dr, dx⟩ = q := ⟨_, rfl⟩
  have hS := (od_ok (q3 (by omega))).1
  simp only at hS
  have hpb : 0 ≤ p ∧ p ≤ 63 := by rw [← hp6]; unfold Od.six; simp only; omega
  have hD := (od_ok (q4 (by omega))).1
  simp only at hD
  have hqb : 0 ≤ q ∧ q ≤ 63 := by rw [← hq6]; unfold Od.six; simp only; omega
  have HCo := hide (show Is.code ⟨(k : Int), ⟨sm, sr, sx⟩, ⟨dm, dr, dx⟩, n⟩ = b + p * 64 + q by unfold Is.code; simp only [Int.toNat_natCast, hp6, hq6, hbk]; rw [if_pos (by omega)])
  have HXs := hide (show Is.xs ⟨(k : Int), ⟨sm, sr, sx⟩, ⟨dm, dr, dx⟩, n⟩ = (if sX = true then [sx] else []) ++ (if dX = true then [dx] else []) by
    unfold Is.xs
    simp only [hsX, hdX]
    have hk6 : (k : Int) ≤ 6 := by omega
    have hk15 : (k : Int) ≤ 15 := by omega
    cases sX <;> cases dX <;> simp [hk6, hk15])
  have hle : (k : Int) ≤ 6 := h1
  have hle15 : (k : Int) ≤ 15 := by omega
  clear h1
  clear q3 q4 q5 q6 q8 q9 q10 q11
  go_enter Try.func79, Try.ntmps79
  go_wp2_with fail
  refine (insOk_any ⟨(k : Int), ⟨sm, sr, sx⟩, ⟨dm, dr, dx⟩, n⟩ _).mono ?_
  rintro e w' ⟨rfl, hb⟩
  have Bz := box_step Bz (unhide HZ) hb
  have a0 : w'.cell? ⟨w.heap.size, 0, none⟩ = some (.int .i64 (k : Int)) := unhide HCL w' Bz 0 _ rfl
  have A0 : ∀ o, (w'.alloc o).cell? ⟨w.heap.size, 0, none⟩ = some (.int .i64 (k : Int)) := fun o => alloc_cell a0 o
  have a1 : w'.cell? ⟨w.heap.size, 1, none⟩ = some (.int .i64 sm) := unhide HCL w' Bz 1 _ rfl
  have A1 : ∀ o, (w'.alloc o).cell? ⟨w.heap.size, 1, none⟩ = some (.int .i64 sm) := fun o => alloc_cell a1 o
  have a2 : w'.cell? ⟨w.heap.size, 2, none⟩ = some (.int .i64 sr) := unhide HCL w' Bz 2 _ rfl
  have A2 : ∀ o, (w'.alloc o).cell? ⟨w.heap.size, 2, none⟩ = some (.int .i64 sr) := fun o => alloc_cell a2 o
  have a3 : w'.cell? ⟨w.heap.size, 3, none⟩ = some (.int .i64 sx) := unhide HCL w' Bz 3 _ rfl
  have A3 : ∀ o, (w'.alloc o).cell? ⟨w.heap.size, 3, none⟩ = some (.int .i64 sx) := fun o => alloc_cell a3 o
  have a4 : w'.cell? ⟨w.heap.size, 4, none⟩ = some (.int .i64 dm) := unhide HCL w' Bz 4 _ rfl
  have A4 : ∀ o, (w'.alloc o).cell? ⟨w.heap.size, 4, none⟩ = some (.int .i64 dm) := fun o => alloc_cell a4 o
  have a5 : w'.cell? ⟨w.heap.size, 5, none⟩ = some (.int .i64 dr) := unhide HCL w' Bz 5 _ rfl
  have A5 : ∀ o, (w'.alloc o).cell? ⟨w.heap.size, 5, none⟩ = some (.int .i64 dr) := fun o => alloc_cell a5 o
  have a6 : w'.cell? ⟨w.heap.size, 6, none⟩ = some (.int .i64 dx) := unhide HCL w' Bz 6 _ rfl
  have A6 : ∀ o, (w'.alloc o).cell? ⟨w.heap.size, 6, none⟩ = some (.int .i64 dx) := fun o => alloc_cell a6 o
  have a7 : w'.cell? ⟨w.heap.size, 7, none⟩ = some (.int .i64 n) := unhide HCL w' Bz 7 _ rfl
  have A7 : ∀ o, (w'.alloc o).cell? ⟨w.heap.size, 7, none⟩ = some (.int .i64 n) := fun o => alloc_cell a7 o
  clear hb
  rw [hok]
  go_wp2_with fail
  refine (base_any k (by omega) _).mono ?_
  rintro e w' ⟨rfl, hb⟩
  have Bz := box_step Bz (unhide HZ) hb
  have a0 : w'.cell? ⟨w.heap.size, 0, none⟩ = some (.int .i64 (k : Int)) := unhide HCL w' Bz 0 _ rfl
  have A0 : ∀ o, (w'.alloc o).cell? ⟨w.heap.size, 0, none⟩ = some (.int .i64 (k : Int)) := fun o => alloc_cell a0 o
  have a1 : w'.cell? ⟨w.heap.size, 1, none⟩ = some (.int .i64 sm) := unhide HCL w' Bz 1 _ rfl
  have A1 : ∀ o, (w'.alloc o).cell? ⟨w.heap.size, 1, none⟩ = some (.int .i64 sm) := fun o => alloc_cell a1 o
  have a2 : w'.cell? ⟨w.heap.size, 2, none⟩ = some (.int .i64 sr) := unhide HCL w' Bz 2 _ rfl
  have A2 : ∀ o, (w'.alloc o).cell? ⟨w.heap.size, 2, none⟩ = some (.int .i64 sr) := fun o => alloc_cell a2 o
  have a3 : w'.cell? ⟨w.heap.size, 3, none⟩ = some (.int .i64 sx) := unhide HCL w' Bz 3 _ rfl
  have A3 : ∀ o, (w'.alloc o).cell? ⟨w.heap.size, 3, none⟩ = some (.int .i64 sx) := fun o => alloc_cell a3 o
  have a4 : w'.cell? ⟨w.heap.size, 4, none⟩ = some (.int .i64 dm) := unhide HCL w' Bz 4 _ rfl
  have A4 : ∀ o, (w'.alloc o).cell? ⟨w.heap.size, 4, none⟩ = some (.int .i64 dm) := fun o => alloc_cell a4 o
  have a5 : w'.cell? ⟨w.heap.size, 5, none⟩ = some (.int .i64 dr) := unhide HCL w' Bz 5 _ rfl
  have A5 : ∀ o, (w'.alloc o).cell? ⟨w.heap.size, 5, none⟩ = some (.int .i64 dr) := fun o => alloc_cell a5 o
  have a6 : w'.cell? ⟨w.heap.size, 6, none⟩ = some (.int .i64 dx) := unhide HCL w' Bz 6 _ rfl
  have A6 : ∀ o, (w'.alloc o).cell? ⟨w.heap.size, 6, none⟩ = some (.int .i64 dx) := fun o => alloc_cell a6 o
  have a7 : w'.cell? ⟨w.heap.size, 7, none⟩ = some (.int .i64 n) := unhide HCL w' Bz 7 _ rfl
  have A7 : ∀ o, (w'.alloc o).cell? ⟨w.heap.size, 7, none⟩ = some (.int .i64 n) := fun o => alloc_cell a7 o
  clear hb
  rw [hbk]
  go_wp2
  go_region_with (go_at_call 97; refine (six_any ⟨_, _, _⟩ (by simp only; omega) _).mono ?_; rintro e w' ⟨rfl, hb⟩; (first | have Bz := box_step Bz (unhide HZ) hb | have Bz := box_stepd Bz (unhide HZ) hb); have a0 : w'.cell? ⟨w.heap.size, 0, none⟩ = some (.int .i64 (k : Int)) := unhide HCL w' Bz 0 _ rfl; have A0 : ∀ o, (w'.alloc o).cell? ⟨w.heap.size, 0, none⟩ = some (.int .i64 (k : Int)) := fun o => alloc_cell a0 o; have a1 : w'.cell? ⟨w.heap.size, 1, none⟩ = some (.int .i64 sm) := unhide HCL w' Bz 1 _ rfl; have A1 : ∀ o, (w'.alloc o).cell? ⟨w.heap.size, 1, none⟩ = some (.int .i64 sm) := fun o => alloc_cell a1 o; have a2 : w'.cell? ⟨w.heap.size, 2, none⟩ = some (.int .i64 sr) := unhide HCL w' Bz 2 _ rfl; have A2 : ∀ o, (w'.alloc o).cell? ⟨w.heap.size, 2, none⟩ = some (.int .i64 sr) := fun o => alloc_cell a2 o; have a3 : w'.cell? ⟨w.heap.size, 3, none⟩ = some (.int .i64 sx) := unhide HCL w' Bz 3 _ rfl; have A3 : ∀ o, (w'.alloc o).cell? ⟨w.heap.size, 3, none⟩ = some (.int .i64 sx) := fun o => alloc_cell a3 o; have a4 : w'.cell? ⟨w.heap.size, 4, none⟩ = some (.int .i64 dm) := unhide HCL w' Bz 4 _ rfl; have A4 : ∀ o, (w'.alloc o).cell? ⟨w.heap.size, 4, none⟩ = some (.int .i64 dm) := fun o => alloc_cell a4 o; have a5 : w'.cell? ⟨w.heap.size, 5, none⟩ = some (.int .i64 dr) := unhide HCL w' Bz 5 _ rfl; have A5 : ∀ o, (w'.alloc o).cell? ⟨w.heap.size, 5, none⟩ = some (.int .i64 dr) := fun o => alloc_cell a5 o; have a6 : w'.cell? ⟨w.heap.size, 6, none⟩ = some (.int .i64 dx) := unhide HCL w' Bz 6 _ rfl; have A6 : ∀ o, (w'.alloc o).cell? ⟨w.heap.size, 6, none⟩ = some (.int .i64 dx) := fun o => alloc_cell a6 o; have a7 : w'.cell? ⟨w.heap.size, 7, none⟩ = some (.int .i64 n) := unhide HCL w' Bz 7 _ rfl; have A7 : ∀ o, (w'.alloc o).cell? ⟨w.heap.size, 7, none⟩ = some (.int .i64 n) := fun o => alloc_cell a7 o; clear hb)
  all_goals
    have hsz := Bz.size
    rw [unhide HZ] at hsz
    have OO := hide ((own_one w' (b + p * 64 + q)).base (show w.heap.size + 1 ≤ w'.heap.size by omega))
    have HN : (Value.slice (some ⟨w'.heap.size, 0, none⟩) 1 1) ≠ .slice none 0 0 := by simp
    have B0 := box_step Bz (unhide HZ) ((Below.refl w'.heap.size w').alloc (Nat.le_refl _) (Obj.cells #[.int .i64 (b + p * 64 + q)] 3))
    go_wp2_with fail
    refine (hasX_any ⟨sm, sr, sx⟩ _).mono ?_
    rintro e w5 ⟨rfl, hb⟩
    have Bz := box_step B0 (unhide HZ) hb
    have a0 : w5.cell? ⟨w.heap.size, 0, none⟩ = some (.int .i64 (k : Int)) := unhide HCL w5 Bz 0 _ rfl
    have A0 : ∀ o, (w5.alloc o).cell? ⟨w.heap.size, 0, none⟩ = some (.int .i64 (k : Int)) := fun o => alloc_cell a0 o
    have a1 : w5.cell? ⟨w.heap.size, 1, none⟩ = some (.int .i64 sm) := unhide HCL w5 Bz 1 _ rfl
    have A1 : ∀ o, (w5.alloc o).cell? ⟨w.heap.size, 1, none⟩ = some (.int .i64 sm) := fun o => alloc_cell a1 o
    have a2 : w5.cell? ⟨w.heap.size, 2, none⟩ = some (.int .i64 sr) := unhide HCL w5 Bz 2 _ rfl
    have A2 : ∀ o, (w5.alloc o).cell? ⟨w.heap.size, 2, none⟩ = some (.int .i64 sr) := fun o => alloc_cell a2 o
    have a3 : w5.cell? ⟨w.heap.size, 3, none⟩ = some (.int .i64 sx) := unhide HCL w5 Bz 3 _ rfl
    have A3 : ∀ o, (w5.alloc o).cell? ⟨w.heap.size, 3, none⟩ = some (.int .i64 sx) := fun o => alloc_cell a3 o
    have a4 : w5.cell? ⟨w.heap.size, 4, none⟩ = some (.int .i64 dm) := unhide HCL w5 Bz 4 _ rfl
    have A4 : ∀ o, (w5.alloc o).cell? ⟨w.heap.size, 4, none⟩ = some (.int .i64 dm) := fun o => alloc_cell a4 o
    have a5 : w5.cell? ⟨w.heap.size, 5, none⟩ = some (.int .i64 dr) := unhide HCL w5 Bz 5 _ rfl
    have A5 : ∀ o, (w5.alloc o).cell? ⟨w.heap.size, 5, none⟩ = some (.int .i64 dr) := fun o => alloc_cell a5 o
    have a6 : w5.cell? ⟨w.heap.size, 6, none⟩ = some (.int .i64 dx) := unhide HCL w5 Bz 6 _ rfl
    have A6 : ∀ o, (w5.alloc o).cell? ⟨w.heap.size, 6, none⟩ = some (.int .i64 dx) := fun o => alloc_cell a6 o
    have a7 : w5.cell? ⟨w.heap.size, 7, none⟩ = some (.int .i64 n) := unhide HCL w5 Bz 7 _ rfl
    have A7 : ∀ o, (w5.alloc o).cell? ⟨w.heap.size, 7, none⟩ = some (.int .i64 n) := fun o => alloc_cell a7 o
    have OO := hide ((unhide OO).later hb)
    clear hb B0
    rw [hsX]
    cases sX
    · go_wp2_with fail
      have B0 := Bz
      refine (hasX_any ⟨dm, dr, dx⟩ _).mono ?_
      rintro e w7 ⟨rfl, hb⟩
      have Bz := box_step B0 (unhide HZ) hb
      have a0 : w7.cell? ⟨w.heap.size, 0, none⟩ = some (.int .i64 (k : Int)) := unhide HCL w7 Bz 0 _ rfl
      have A0 : ∀ o, (w7.alloc o).cell? ⟨w.heap.size, 0, none⟩ = some (.int .i64 (k : Int)) := fun o => alloc_cell a0 o
      have a1 : w7.cell? ⟨w.heap.size, 1, none⟩ = some (.int .i64 sm) := unhide HCL w7 Bz 1 _ rfl
      have A1 : ∀ o, (w7.alloc o).cell? ⟨w.heap.size, 1, none⟩ = some (.int .i64 sm) := fun o => alloc_cell a1 o
      have a2 : w7.cell? ⟨w.heap.size, 2, none⟩ = some (.int .i64 sr) := unhide HCL w7 Bz 2 _ rfl
      have A2 : ∀ o, (w7.alloc o).cell? ⟨w.heap.size, 2, none⟩ = some (.int .i64 sr) := fun o => alloc_cell a2 o
      have a3 : w7.cell? ⟨w.heap.size, 3, none⟩ = some (.int .i64 sx) := unhide HCL w7 Bz 3 _ rfl
      have A3 : ∀ o, (w7.alloc o).cell? ⟨w.heap.size, 3, none⟩ = some (.int .i64 sx) := fun o => alloc_cell a3 o
      have a4 : w7.cell? ⟨w.heap.size, 4, none⟩ = some (.int .i64 dm) := unhide HCL w7 Bz 4 _ rfl
      have A4 : ∀ o, (w7.alloc o).cell? ⟨w.heap.size, 4, none⟩ = some (.int .i64 dm) := fun o => alloc_cell a4 o
      have a5 : w7.cell? ⟨w.heap.size, 5, none⟩ = some (.int .i64 dr) := unhide HCL w7 Bz 5 _ rfl
      have A5 : ∀ o, (w7.alloc o).cell? ⟨w.heap.size, 5, none⟩ = some (.int .i64 dr) := fun o => alloc_cell a5 o
      have a6 : w7.cell? ⟨w.heap.size, 6, none⟩ = some (.int .i64 dx) := unhide HCL w7 Bz 6 _ rfl
      have A6 : ∀ o, (w7.alloc o).cell? ⟨w.heap.size, 6, none⟩ = some (.int .i64 dx) := fun o => alloc_cell a6 o
      have a7 : w7.cell? ⟨w.heap.size, 7, none⟩ = some (.int .i64 n) := unhide HCL w7 Bz 7 _ rfl
      have A7 : ∀ o, (w7.alloc o).cell? ⟨w.heap.size, 7, none⟩ = some (.int .i64 n) := fun o => alloc_cell a7 o
      have OO := hide ((unhide OO).later hb)
      clear hb B0
      rw [hdX]
      cases dX
      · go_wp2
        go_ret
        exact ⟨(.slice (some ⟨w'.heap.size, 0, none⟩) 1 1), rfl, HN, by rw [unhide HCo, unhide HXs]; exact (unhide OO).base (by omega), unhide HB _ Bz⟩
      · have K1 := hide (cell_one_new w7 (Value.int .i64 (dx)) 3)
        have szc := Bz.size
        rw [unhide HZ] at szc
        go_wp2_with (at_builtin; go_must (refine wpList_append_own _ rfl (.tmp 94) (.tmp 98) 24 rfl (w.heap.size + 1) 3 i0 (.int .i64 0) 1 8 Try.underlying24 hi hz0 hz1 hz2 rfl (by decide) (.slice (some ⟨w'.heap.size, 0, none⟩) 1 1) 1 (cellsN [b + p * 64 + q]) rfl ((unhide OO).alloc _) ⟨w7.heap.size, 0, none⟩ 1 1 (cellsN [dx]) rfl rfl (unhide K1) (cellsN_one _) (by unfold maxLen; omega) (by omega) (by simp; omega) ?_; intro v8 w8 hown hgrow hnil; have Bz := box_app Bz (unhide HZ) _ hgrow (unhide OO) (Nat.le_refl _); have a0 : w8.cell? ⟨w.heap.size, 0, none⟩ = some (.int .i64 (k : Int)) := unhide HCL w8 Bz 0 _ rfl; have A0 : ∀ o, (w8.alloc o).cell? ⟨w.heap.size, 0, none⟩ = some (.int .i64 (k : Int)) := fun o => alloc_cell a0 o; have a1 : w8.cell? ⟨w.heap.size, 1, none⟩ = some (.int .i64 sm) := unhide HCL w8 Bz 1 _ rfl; have A1 : ∀ o, (w8.alloc o).cell? ⟨w.heap.size, 1, none⟩ = some (.int .i64 sm) := fun o => alloc_cell a1 o; have a2 : w8.cell? ⟨w.heap.size, 2, none⟩ = some (.int .i64 sr) := unhide HCL w8 Bz 2 _ rfl; have A2 : ∀ o, (w8.alloc o).cell? ⟨w.heap.size, 2, none⟩ = some (.int .i64 sr) := fun o => alloc_cell a2 o; have a3 : w8.cell? ⟨w.heap.size, 3, none⟩ = some (.int .i64 sx) := unhide HCL w8 Bz 3 _ rfl; have A3 : ∀ o, (w8.alloc o).cell? ⟨w.heap.size, 3, none⟩ = some (.int .i64 sx) := fun o => alloc_cell a3 o; have a4 : w8.cell? ⟨w.heap.size, 4, none⟩ = some (.int .i64 dm) := unhide HCL w8 Bz 4 _ rfl; have A4 : ∀ o, (w8.alloc o).cell? ⟨w.heap.size, 4, none⟩ = some (.int .i64 dm) := fun o => alloc_cell a4 o; have a5 : w8.cell? ⟨w.heap.size, 5, none⟩ = some (.int .i64 dr) := unhide HCL w8 Bz 5 _ rfl; have A5 : ∀ o, (w8.alloc o).cell? ⟨w.heap.size, 5, none⟩ = some (.int .i64 dr) := fun o => alloc_cell a5 o; have a6 : w8.cell? ⟨w.heap.size, 6, none⟩ = some (.int .i64 dx) := unhide HCL w8 Bz 6 _ rfl; have A6 : ∀ o, (w8.alloc o).cell? ⟨w.heap.size, 6, none⟩ = some (.int .i64 dx) := fun o => alloc_cell a6 o; have a7 : w8.cell? ⟨w.heap.size, 7, none⟩ = some (.int .i64 n) := unhide HCL w8 Bz 7 _ rfl; have A7 : ∀ o, (w8.alloc o).cell? ⟨w.heap.size, 7, none⟩ = some (.int .i64 n) := fun o => alloc_cell a7 o))
        have HN : v8 ≠ .slice none 0 0 := fun e => by have := hnil.1 e; omega
        have OO := hide (show OwnN w8 (w.heap.size + 1) v8 [b + p * 64 + q, dx] from hown)
        clear hown hgrow hnil K1
        go_wp2
        go_ret
        exact ⟨v8, rfl, HN, by rw [unhide HCo, unhide HXs]; exact (unhide OO).base (by omega), unhide HB _ Bz⟩
    · have K1 := hide (cell_one_new w5 (Value.int .i64 (sx)) 3)
      have szc := Bz.size
      rw [unhide HZ] at szc
      go_wp2_with (at_builtin; go_must (refine wpList_append_own _ rfl (.tmp 80) (.tmp 84) 24 rfl (w.heap.size + 1) 3 i0 (.int .i64 0) 1 8 Try.underlying24 hi hz0 hz1 hz2 rfl (by decide) (.slice (some ⟨w'.heap.size, 0, none⟩) 1 1) 1 (cellsN [b + p * 64 + q]) rfl ((unhide OO).alloc _) ⟨w5.heap.size, 0, none⟩ 1 1 (cellsN [sx]) rfl rfl (unhide K1) (cellsN_one _) (by unfold maxLen; omega) (by omega) (by simp; omega) ?_; intro v6 w6 hown hgrow hnil; have Bz := box_app Bz (unhide HZ) _ hgrow (unhide OO) (Nat.le_refl _); have a0 : w6.cell? ⟨w.heap.size, 0, none⟩ = some (.int .i64 (k : Int)) := unhide HCL w6 Bz 0 _ rfl; have A0 : ∀ o, (w6.alloc o).cell? ⟨w.heap.size, 0, none⟩ = some (.int .i64 (k : Int)) := fun o => alloc_cell a0 o; have a1 : w6.cell? ⟨w.heap.size, 1, none⟩ = some (.int .i64 sm) := unhide HCL w6 Bz 1 _ rfl; have A1 : ∀ o, (w6.alloc o).cell? ⟨w.heap.size, 1, none⟩ = some (.int .i64 sm) := fun o => alloc_cell a1 o; have a2 : w6.cell? ⟨w.heap.size, 2, none⟩ = some (.int .i64 sr) := unhide HCL w6 Bz 2 _ rfl; have A2 : ∀ o, (w6.alloc o).cell? ⟨w.heap.size, 2, none⟩ = some (.int .i64 sr) := fun o => alloc_cell a2 o; have a3 : w6.cell? ⟨w.heap.size, 3, none⟩ = some (.int .i64 sx) := unhide HCL w6 Bz 3 _ rfl; have A3 : ∀ o, (w6.alloc o).cell? ⟨w.heap.size, 3, none⟩ = some (.int .i64 sx) := fun o => alloc_cell a3 o; have a4 : w6.cell? ⟨w.heap.size, 4, none⟩ = some (.int .i64 dm) := unhide HCL w6 Bz 4 _ rfl; have A4 : ∀ o, (w6.alloc o).cell? ⟨w.heap.size, 4, none⟩ = some (.int .i64 dm) := fun o => alloc_cell a4 o; have a5 : w6.cell? ⟨w.heap.size, 5, none⟩ = some (.int .i64 dr) := unhide HCL w6 Bz 5 _ rfl; have A5 : ∀ o, (w6.alloc o).cell? ⟨w.heap.size, 5, none⟩ = some (.int .i64 dr) := fun o => alloc_cell a5 o; have a6 : w6.cell? ⟨w.heap.size, 6, none⟩ = some (.int .i64 dx) := unhide HCL w6 Bz 6 _ rfl; have A6 : ∀ o, (w6.alloc o).cell? ⟨w.heap.size, 6, none⟩ = some (.int .i64 dx) := fun o => alloc_cell a6 o; have a7 : w6.cell? ⟨w.heap.size, 7, none⟩ = some (.int .i64 n) := unhide HCL w6 Bz 7 _ rfl; have A7 : ∀ o, (w6.alloc o).cell? ⟨w.heap.size, 7, none⟩ = some (.int .i64 n) := fun o => alloc_cell a7 o))
      have HN : v6 ≠ .slice none 0 0 := fun e => by have := hnil.1 e; omega
      have OO := hide (show OwnN w6 (w.heap.size + 1) v6 [b + p * 64 + q, sx] from hown)
      clear hown hgrow hnil K1
      have B0 := Bz
      refine (hasX_any ⟨dm, dr, dx⟩ _).mono ?_
      rintro e w7 ⟨rfl, hb⟩
      have Bz := box_step B0 (unhide HZ) hb
      have a0 : w7.cell? ⟨w.heap.size, 0, none⟩ = some (.int .i64 (k : Int)) := unhide HCL w7 Bz 0 _ rfl
      have A0 : ∀ o, (w7.alloc o).cell? ⟨w.heap.size, 0, none⟩ = some (.int .i64 (k : Int)) := fun o => alloc_cell a0 o
      have a1 : w7.cell? ⟨w.heap.size, 1, none⟩ = some (.int .i64 sm) := unhide HCL w7 Bz 1 _ rfl
      have A1 : ∀ o, (w7.alloc o).cell? ⟨w.heap.size, 1, none⟩ = some (.int .i64 sm) := fun o => alloc_cell a1 o
      have a2 : w7.cell? ⟨w.heap.size, 2, none⟩ = some (.int .i64 sr) := unhide HCL w7 Bz 2 _ rfl
      have A2 : ∀ o, (w7.alloc o).cell? ⟨w.heap.size, 2, none⟩ = some (.int .i64 sr) := fun o => alloc_cell a2 o
      have a3 : w7.cell? ⟨w.heap.size, 3, none⟩ = some (.int .i64 sx) := unhide HCL w7 Bz 3 _ rfl
      have A3 : ∀ o, (w7.alloc o).cell? ⟨w.heap.size, 3, none⟩ = some (.int .i64 sx) := fun o => alloc_cell a3 o
      have a4 : w7.cell? ⟨w.heap.size, 4, none⟩ = some (.int .i64 dm) := unhide HCL w7 Bz 4 _ rfl
      have A4 : ∀ o, (w7.alloc o).cell? ⟨w.heap.size, 4, none⟩ = some (.int .i64 dm) := fun o => alloc_cell a4 o
      have a5 : w7.cell? ⟨w.heap.size, 5, none⟩ = some (.int .i64 dr) := unhide HCL w7 Bz 5 _ rfl
      have A5 : ∀ o, (w7.alloc o).cell? ⟨w.heap.size, 5, none⟩ = some (.int .i64 dr) := fun o => alloc_cell a5 o
      have a6 : w7.cell? ⟨w.heap.size, 6, none⟩ = some (.int .i64 dx) := unhide HCL w7 Bz 6 _ rfl
      have A6 : ∀ o, (w7.alloc o).cell? ⟨w.heap.size, 6, none⟩ = some (.int .i64 dx) := fun o => alloc_cell a6 o
      have a7 : w7.cell? ⟨w.heap.size, 7, none⟩ = some (.int .i64 n) := unhide HCL w7 Bz 7 _ rfl
      have A7 : ∀ o, (w7.alloc o).cell? ⟨w.heap.size, 7, none⟩ = some (.int .i64 n) := fun o => alloc_cell a7 o
      have OO := hide ((unhide OO).later hb)
      clear hb B0
      rw [hdX]
      cases dX
      · go_wp2
        go_ret
        exact ⟨v6, rfl, HN, by rw [unhide HCo, unhide HXs]; exact (unhide OO).base (by omega), unhide HB _ Bz⟩
      · have K1 := hide (cell_one_new w7 (Value.int .i64 (dx)) 3)
        have szc := Bz.size
        rw [unhide HZ] at szc
        go_wp2_with (at_builtin; go_must (refine wpList_append_own _ rfl (.tmp 94) (.tmp 98) 24 rfl (w.heap.size + 1) 3 i0 (.int .i64 0) 1 8 Try.underlying24 hi hz0 hz1 hz2 rfl (by decide) v6 2 (cellsN [b + p * 64 + q, sx]) rfl ((unhide OO).alloc _) ⟨w7.heap.size, 0, none⟩ 1 1 (cellsN [dx]) rfl rfl (unhide K1) (cellsN_one _) (by unfold maxLen; omega) (by omega) (by simp; omega) ?_; intro v8 w8 hown hgrow hnil; have Bz := box_app Bz (unhide HZ) _ hgrow (unhide OO) (Nat.le_refl _); have a0 : w8.cell? ⟨w.heap.size, 0, none⟩ = some (.int .i64 (k : Int)) := unhide HCL w8 Bz 0 _ rfl; have A0 : ∀ o, (w8.alloc o).cell? ⟨w.heap.size, 0, none⟩ = some (.int .i64 (k : Int)) := fun o => alloc_cell a0 o; have a1 : w8.cell? ⟨w.heap.size, 1, none⟩ = some (.int .i64 sm) := unhide HCL w8 Bz 1 _ rfl; have A1 : ∀ o, (w8.alloc o).cell? ⟨w.heap.size, 1, none⟩ = some (.int .i64 sm) := fun o => alloc_cell a1 o; have a2 : w8.cell? ⟨w.heap.size, 2, none⟩ = some (.int .i64 sr) := unhide HCL w8 Bz 2 _ rfl; have A2 : ∀ o, (w8.alloc o).cell? ⟨w.heap.size, 2, none⟩ = some (.int .i64 sr) := fun o => alloc_cell a2 o; have a3 : w8.cell? ⟨w.heap.size, 3, none⟩ = some (.int .i64 sx) := unhide HCL w8 Bz 3 _ rfl; have A3 : ∀ o, (w8.alloc o).cell? ⟨w.heap.size, 3, none⟩ = some (.int .i64 sx) := fun o => alloc_cell a3 o; have a4 : w8.cell? ⟨w.heap.size, 4, none⟩ = some (.int .i64 dm) := unhide HCL w8 Bz 4 _ rfl; have A4 : ∀ o, (w8.alloc o).cell? ⟨w.heap.size, 4, none⟩ = some (.int .i64 dm) := fun o => alloc_cell a4 o; have a5 : w8.cell? ⟨w.heap.size, 5, none⟩ = some (.int .i64 dr) := unhide HCL w8 Bz 5 _ rfl; have A5 : ∀ o, (w8.alloc o).cell? ⟨w.heap.size, 5, none⟩ = some (.int .i64 dr) := fun o => alloc_cell a5 o; have a6 : w8.cell? ⟨w.heap.size, 6, none⟩ = some (.int .i64 dx) := unhide HCL w8 Bz 6 _ rfl; have A6 : ∀ o, (w8.alloc o).cell? ⟨w.heap.size, 6, none⟩ = some (.int .i64 dx) := fun o => alloc_cell a6 o; have a7 : w8.cell? ⟨w.heap.size, 7, none⟩ = some (.int .i64 n) := unhide HCL w8 Bz 7 _ rfl; have A7 : ∀ o, (w8.alloc o).cell? ⟨w.heap.size, 7, none⟩ = some (.int .i64 n) := fun o => alloc_cell a7 o))
        have HN : v8 ≠ .slice none 0 0 := fun e => by have := hnil.1 e; omega
        have OO := hide (show OwnN w8 (w.heap.size + 1) v8 [b + p * 64 + q, sx, dx] from hown)
        clear hown hgrow hnil K1
        go_wp2
        go_ret
        exact ⟨v8, rfl, HN, by rw [unhide HCo, unhide HXs]; exact (unhide OO).base (by omega), unhide HB _ Bz⟩

end Go.Proofs.Ytfkmibgamkignaa

namespace Go.Proofs.Ytfkmibgamkignaa
open Go.ChangeShapes Go.WideShapes Go.ChangeAt Go.RowKit
set_option linter.unusedVariables false
set_option maxRecDepth 8000

set_option maxHeartbeats 4000000 in
theorem encS_B (k : Nat) (sm sr sx dm dr dx n : Int) (w : World) (hok : Is.ok ⟨(k : Int), ⟨sm, sr, sx⟩, ⟨dm, dr, dx⟩, n⟩ = true) (h1 : 6 < (k : Int)) (h2 : (k : Int) ≤ 14) :
    Calls Try.prog 79 #[.agg #[.int .i64 (k : Int), .int .i64 sm, .int .i64 sr, .int .i64 sx, .int .i64 dm, .int .i64 dr, .int .i64 dx, .int .i64 n]] w fun e w' => ∃ v, e = .returned v ∧ v ≠ .slice none 0 0 ∧ OwnN w' w.heap.size v (Is.code ⟨(k : Int), ⟨sm, sr, sx⟩, ⟨dm, dr, dx⟩, n⟩ :: Is.xs ⟨(k : Int), ⟨sm, sr, sx⟩, ⟨dm, dr, dx⟩, n⟩) ∧ Below w.heap.size w w' := by
  obtain ⟨i0, hi, hz0, hz1, hz2⟩ := info_parts info3
  have HZ := hide (show (w.alloc (Obj.cells #[.int .i64 (k : Int), .int .i64 sm, .int .i64 sr, .int .i64 sx, .int .i64 dm, .int .i64 dr, .int .i64 dx, .int .i64 n] 92)).heap.size = w.heap.size + 1 by simp)
  have HCL := hide (box_cells w #[.int .i64 (k : Int), .int .i64 sm, .int .i64 sr, .int .i64 sx, .int .i64 dm, .int .i64 dr, .int .i64 dx, .int .i64 n] 92)
  have HB := hide (box_below w (Obj.cells #[.int .i64 (k : Int), .int .i64 sm, .int .i64 sr, .int .i64 sx, .int .i64 dm, .int .i64 dr, .int .i64 dx, .int .i64 n] 92))
  have Bz : Below (w.heap.size + 1) (w.alloc (Obj.cells #[.int .i64 (k : Int), .int .i64 sm, .int .i64 sr, .int .i64 sx, .int .i64 dm, .int .i64 dr, .int .i64 dx, .int .i64 n] 92)) (w.alloc (Obj.cells #[.int .i64 (k : Int), .int .i64 sm, .int .i64 sr, .int .i64 sx, .int .i64 dm, .int .i64 dr, .int .i64 dx, .int .i64 n] 92)) := Below.refl _ _
  obtain ⟨⟨q1, q2⟩, q3, q4, q5, q6, q7, q8, q9, q10, q11⟩ := is_ok hok
  simp only at q1 q2 q3 q4 q5 q6 q7 q8 q9 q10 q11
  have hbb := base_bd ⟨k, by omega⟩
  simp only at hbb
  obtain ⟨b, hbk⟩ : ∃ b, baseAt k = b := ⟨_, rfl⟩
  rw [hbk] at hbb
  obtain ⟨p, hp6⟩ : ∃ p, Od.six ⟨sm, sr, sx⟩ = p := ⟨_, rfl⟩
  obtain ⟨q, hq6⟩ : ∃ q, Od.six ⟨dm, dr, dx⟩ = q := ⟨_, rfl⟩
  obtain ⟨sX, hsX⟩ : ∃ q, Od.hasX ⟨sm, sr, sx⟩ = q := ⟨_, rfl⟩
  obtain ⟨dX, hdX⟩ : ∃ q, Od.hasX ⟨dm, dr, dx⟩ = q := ⟨_, rfl⟩
  have hD := (od_ok (q4 (by omega))).1
  simp only at hD
  have hqb : 0 ≤ q ∧ q ≤ 63 := by rw [← hq6]; unfold Od.six; simp only; omega
  have HCo := hide (show Is.code ⟨(k : Int), ⟨sm, sr, sx⟩, ⟨dm, dr, dx⟩, n⟩ = b + q by unfold Is.code; simp only [Int.toNat_natCast, hp6, hq6, hbk]; rw [if_neg (by omega)]; rw [if_pos (by omega)])
  have HXs := hide (show Is.xs ⟨(k : Int), ⟨sm, sr, sx⟩, ⟨dm, dr, dx⟩, n⟩ = (if dX = true then [dx] else []) by
    unfold Is.xs
    simp only [hsX, hdX]
    rw [if_neg (by omega), List.nil_append]
    have hk15 : (k : Int) ≤ 15 := by omega
    cases dX <;> simp [hk15])
  have hle : (k : Int) ≤ 14 := h2
  have hle15 : (k : Int) ≤ 15 := by omega
  have nd6 : decide ((k : Int) ≤ 6) = false := by simp; omega
  clear h1 h2
  clear q3 q4 q5 q6 q8 q9 q10 q11
  go_enter Try.func79, Try.ntmps79
  go_wp2_with fail
  refine (insOk_any ⟨(k : Int), ⟨sm, sr, sx⟩, ⟨dm, dr, dx⟩, n⟩ _).mono ?_
  rintro e w' ⟨rfl, hb⟩
  have Bz := box_step Bz (unhide HZ) hb
  have a0 : w'.cell? ⟨w.heap.size, 0, none⟩ = some (.int .i64 (k : Int)) := unhide HCL w' Bz 0 _ rfl
  have A0 : ∀ o, (w'.alloc o).cell? ⟨w.heap.size, 0, none⟩ = some (.int .i64 (k : Int)) := fun o => alloc_cell a0 o
  have a1 : w'.cell? ⟨w.heap.size, 1, none⟩ = some (.int .i64 sm) := unhide HCL w' Bz 1 _ rfl
  have A1 : ∀ o, (w'.alloc o).cell? ⟨w.heap.size, 1, none⟩ = some (.int .i64 sm) := fun o => alloc_cell a1 o
  have a2 : w'.cell? ⟨w.heap.size, 2, none⟩ = some (.int .i64 sr) := unhide HCL w' Bz 2 _ rfl
  have A2 : ∀ o, (w'.alloc o).cell? ⟨w.heap.size, 2, none⟩ = some (.int .i64 sr) := fun o => alloc_cell a2 o
  have a3 : w'.cell? ⟨w.heap.size, 3, none⟩ = some (.int .i64 sx) := unhide HCL w' Bz 3 _ rfl
  have A3 : ∀ o, (w'.alloc o).cell? ⟨w.heap.size, 3, none⟩ = some (.int .i64 sx) := fun o => alloc_cell a3 o
  have a4 : w'.cell? ⟨w.heap.size, 4, none⟩ = some (.int .i64 dm) := unhide HCL w' Bz 4 _ rfl
  have A4 : ∀ o, (w'.alloc o).cell? ⟨w.heap.size, 4, none⟩ = some (.int .i64 dm) := fun o => alloc_cell a4 o
  have a5 : w'.cell? ⟨w.heap.size, 5, none⟩ = some (.int .i64 dr) := unhide HCL w' Bz 5 _ rfl
  have A5 : ∀ o, (w'.alloc o).cell? ⟨w.heap.size, 5, none⟩ = some (.int .i64 dr) := fun o => alloc_cell a5 o
  have a6 : w'.cell? ⟨w.heap.size, 6, none⟩ = some (.int .i64 dx) := unhide HCL w' Bz 6 _ rfl
  have A6 : ∀ o, (w'.alloc o).cell? ⟨w.heap.size, 6, none⟩ = some (.int .i64 dx) := fun o => alloc_cell a6 o
  have a7 : w'.cell? ⟨w.heap.size, 7, none⟩ = some (.int .i64 n) := unhide HCL w' Bz 7 _ rfl
  have A7 : ∀ o, (w'.alloc o).cell? ⟨w.heap.size, 7, none⟩ = some (.int .i64 n) := fun o => alloc_cell a7 o
  clear hb
  rw [hok]
  go_wp2_with fail
  refine (base_any k (by omega) _).mono ?_
  rintro e w' ⟨rfl, hb⟩
  have Bz := box_step Bz (unhide HZ) hb
  have a0 : w'.cell? ⟨w.heap.size, 0, none⟩ = some (.int .i64 (k : Int)) := unhide HCL w' Bz 0 _ rfl
  have A0 : ∀ o, (w'.alloc o).cell? ⟨w.heap.size, 0, none⟩ = some (.int .i64 (k : Int)) := fun o => alloc_cell a0 o
  have a1 : w'.cell? ⟨w.heap.size, 1, none⟩ = some (.int .i64 sm) := unhide HCL w' Bz 1 _ rfl
  have A1 : ∀ o, (w'.alloc o).cell? ⟨w.heap.size, 1, none⟩ = some (.int .i64 sm) := fun o => alloc_cell a1 o
  have a2 : w'.cell? ⟨w.heap.size, 2, none⟩ = some (.int .i64 sr) := unhide HCL w' Bz 2 _ rfl
  have A2 : ∀ o, (w'.alloc o).cell? ⟨w.heap.size, 2, none⟩ = some (.int .i64 sr) := fun o => alloc_cell a2 o
  have a3 : w'.cell? ⟨w.heap.size, 3, none⟩ = some (.int .i64 sx) := unhide HCL w' Bz 3 _ rfl
  have A3 : ∀ o, (w'.alloc o).cell? ⟨w.heap.size, 3, none⟩ = some (.int .i64 sx) := fun o => alloc_cell a3 o
  have a4 : w'.cell? ⟨w.heap.size, 4, none⟩ = some (.int .i64 dm) := unhide HCL w' Bz 4 _ rfl
  have A4 : ∀ o, (w'.alloc o).cell? ⟨w.heap.size, 4, none⟩ = some (.int .i64 dm) := fun o => alloc_cell a4 o
  have a5 : w'.cell? ⟨w.heap.size, 5, none⟩ = some (.int .i64 dr) := unhide HCL w' Bz 5 _ rfl
  have A5 : ∀ o, (w'.alloc o).cell? ⟨w.heap.size, 5, none⟩ = some (.int .i64 dr) := fun o => alloc_cell a5 o
  have a6 : w'.cell? ⟨w.heap.size, 6, none⟩ = some (.int .i64 dx) := unhide HCL w' Bz 6 _ rfl
  have A6 : ∀ o, (w'.alloc o).cell? ⟨w.heap.size, 6, none⟩ = some (.int .i64 dx) := fun o => alloc_cell a6 o
  have a7 : w'.cell? ⟨w.heap.size, 7, none⟩ = some (.int .i64 n) := unhide HCL w' Bz 7 _ rfl
  have A7 : ∀ o, (w'.alloc o).cell? ⟨w.heap.size, 7, none⟩ = some (.int .i64 n) := fun o => alloc_cell a7 o
  clear hb
  rw [hbk]
  go_wp2_with fail
  refine (six_any ⟨dm, dr, dx⟩ (by simp only; omega) _).mono ?_
  rintro e w' ⟨rfl, hb⟩
  have Bz := box_step Bz (unhide HZ) hb
  have a0 : w'.cell? ⟨w.heap.size, 0, none⟩ = some (.int .i64 (k : Int)) := unhide HCL w' Bz 0 _ rfl
  have A0 : ∀ o, (w'.alloc o).cell? ⟨w.heap.size, 0, none⟩ = some (.int .i64 (k : Int)) := fun o => alloc_cell a0 o
  have a1 : w'.cell? ⟨w.heap.size, 1, none⟩ = some (.int .i64 sm) := unhide HCL w' Bz 1 _ rfl
  have A1 : ∀ o, (w'.alloc o).cell? ⟨w.heap.size, 1, none⟩ = some (.int .i64 sm) := fun o => alloc_cell a1 o
  have a2 : w'.cell? ⟨w.heap.size, 2, none⟩ = some (.int .i64 sr) := unhide HCL w' Bz 2 _ rfl
  have A2 : ∀ o, (w'.alloc o).cell? ⟨w.heap.size, 2, none⟩ = some (.int .i64 sr) := fun o => alloc_cell a2 o
  have a3 : w'.cell? ⟨w.heap.size, 3, none⟩ = some (.int .i64 sx) := unhide HCL w' Bz 3 _ rfl
  have A3 : ∀ o, (w'.alloc o).cell? ⟨w.heap.size, 3, none⟩ = some (.int .i64 sx) := fun o => alloc_cell a3 o
  have a4 : w'.cell? ⟨w.heap.size, 4, none⟩ = some (.int .i64 dm) := unhide HCL w' Bz 4 _ rfl
  have A4 : ∀ o, (w'.alloc o).cell? ⟨w.heap.size, 4, none⟩ = some (.int .i64 dm) := fun o => alloc_cell a4 o
  have a5 : w'.cell? ⟨w.heap.size, 5, none⟩ = some (.int .i64 dr) := unhide HCL w' Bz 5 _ rfl
  have A5 : ∀ o, (w'.alloc o).cell? ⟨w.heap.size, 5, none⟩ = some (.int .i64 dr) := fun o => alloc_cell a5 o
  have a6 : w'.cell? ⟨w.heap.size, 6, none⟩ = some (.int .i64 dx) := unhide HCL w' Bz 6 _ rfl
  have A6 : ∀ o, (w'.alloc o).cell? ⟨w.heap.size, 6, none⟩ = some (.int .i64 dx) := fun o => alloc_cell a6 o
  have a7 : w'.cell? ⟨w.heap.size, 7, none⟩ = some (.int .i64 n) := unhide HCL w' Bz 7 _ rfl
  have A7 : ∀ o, (w'.alloc o).cell? ⟨w.heap.size, 7, none⟩ = some (.int .i64 n) := fun o => alloc_cell a7 o
  clear hb
  rw [hq6]
  have hsz := Bz.size
  rw [unhide HZ] at hsz
  have OO := hide ((own_one w' (b + q)).base (show w.heap.size + 1 ≤ w'.heap.size by omega))
  have HN : (Value.slice (some ⟨w'.heap.size, 0, none⟩) 1 1) ≠ .slice none 0 0 := by simp
  have B0 := box_step Bz (unhide HZ) ((Below.refl w'.heap.size w').alloc (Nat.le_refl _) (Obj.cells #[.int .i64 (b + q)] 3))
  go_wp2_with fail
  refine (hasX_any ⟨dm, dr, dx⟩ _).mono ?_
  rintro e w7 ⟨rfl, hb⟩
  have Bz := box_step B0 (unhide HZ) hb
  have a0 : w7.cell? ⟨w.heap.size, 0, none⟩ = some (.int .i64 (k : Int)) := unhide HCL w7 Bz 0 _ rfl
  have A0 : ∀ o, (w7.alloc o).cell? ⟨w.heap.size, 0, none⟩ = some (.int .i64 (k : Int)) := fun o => alloc_cell a0 o
  have a1 : w7.cell? ⟨w.heap.size, 1, none⟩ = some (.int .i64 sm) := unhide HCL w7 Bz 1 _ rfl
  have A1 : ∀ o, (w7.alloc o).cell? ⟨w.heap.size, 1, none⟩ = some (.int .i64 sm) := fun o => alloc_cell a1 o
  have a2 : w7.cell? ⟨w.heap.size, 2, none⟩ = some (.int .i64 sr) := unhide HCL w7 Bz 2 _ rfl
  have A2 : ∀ o, (w7.alloc o).cell? ⟨w.heap.size, 2, none⟩ = some (.int .i64 sr) := fun o => alloc_cell a2 o
  have a3 : w7.cell? ⟨w.heap.size, 3, none⟩ = some (.int .i64 sx) := unhide HCL w7 Bz 3 _ rfl
  have A3 : ∀ o, (w7.alloc o).cell? ⟨w.heap.size, 3, none⟩ = some (.int .i64 sx) := fun o => alloc_cell a3 o
  have a4 : w7.cell? ⟨w.heap.size, 4, none⟩ = some (.int .i64 dm) := unhide HCL w7 Bz 4 _ rfl
  have A4 : ∀ o, (w7.alloc o).cell? ⟨w.heap.size, 4, none⟩ = some (.int .i64 dm) := fun o => alloc_cell a4 o
  have a5 : w7.cell? ⟨w.heap.size, 5, none⟩ = some (.int .i64 dr) := unhide HCL w7 Bz 5 _ rfl
  have A5 : ∀ o, (w7.alloc o).cell? ⟨w.heap.size, 5, none⟩ = some (.int .i64 dr) := fun o => alloc_cell a5 o
  have a6 : w7.cell? ⟨w.heap.size, 6, none⟩ = some (.int .i64 dx) := unhide HCL w7 Bz 6 _ rfl
  have A6 : ∀ o, (w7.alloc o).cell? ⟨w.heap.size, 6, none⟩ = some (.int .i64 dx) := fun o => alloc_cell a6 o
  have a7 : w7.cell? ⟨w.heap.size, 7, none⟩ = some (.int .i64 n) := unhide HCL w7 Bz 7 _ rfl
  have A7 : ∀ o, (w7.alloc o).cell? ⟨w.heap.size, 7, none⟩ = some (.int .i64 n) := fun o => alloc_cell a7 o
  have OO := hide ((unhide OO).later hb)
  clear hb B0
  rw [hdX]
  cases dX
  · go_wp2
    go_ret
    exact ⟨(.slice (some ⟨w'.heap.size, 0, none⟩) 1 1), rfl, HN, by rw [unhide HCo, unhide HXs]; exact (unhide OO).base (by omega), unhide HB _ Bz⟩
  · have K1 := hide (cell_one_new w7 (Value.int .i64 (dx)) 3)
    have szc := Bz.size
    rw [unhide HZ] at szc
    go_wp2_with (at_builtin; go_must (refine wpList_append_own _ rfl (.tmp 94) (.tmp 98) 24 rfl (w.heap.size + 1) 3 i0 (.int .i64 0) 1 8 Try.underlying24 hi hz0 hz1 hz2 rfl (by decide) (.slice (some ⟨w'.heap.size, 0, none⟩) 1 1) 1 (cellsN [b + q]) rfl ((unhide OO).alloc _) ⟨w7.heap.size, 0, none⟩ 1 1 (cellsN [dx]) rfl rfl (unhide K1) (cellsN_one _) (by unfold maxLen; omega) (by omega) (by simp; omega) ?_; intro v8 w8 hown hgrow hnil; have Bz := box_app Bz (unhide HZ) _ hgrow (unhide OO) (Nat.le_refl _); have a0 : w8.cell? ⟨w.heap.size, 0, none⟩ = some (.int .i64 (k : Int)) := unhide HCL w8 Bz 0 _ rfl; have A0 : ∀ o, (w8.alloc o).cell? ⟨w.heap.size, 0, none⟩ = some (.int .i64 (k : Int)) := fun o => alloc_cell a0 o; have a1 : w8.cell? ⟨w.heap.size, 1, none⟩ = some (.int .i64 sm) := unhide HCL w8 Bz 1 _ rfl; have A1 : ∀ o, (w8.alloc o).cell? ⟨w.heap.size, 1, none⟩ = some (.int .i64 sm) := fun o => alloc_cell a1 o; have a2 : w8.cell? ⟨w.heap.size, 2, none⟩ = some (.int .i64 sr) := unhide HCL w8 Bz 2 _ rfl; have A2 : ∀ o, (w8.alloc o).cell? ⟨w.heap.size, 2, none⟩ = some (.int .i64 sr) := fun o => alloc_cell a2 o; have a3 : w8.cell? ⟨w.heap.size, 3, none⟩ = some (.int .i64 sx) := unhide HCL w8 Bz 3 _ rfl; have A3 : ∀ o, (w8.alloc o).cell? ⟨w.heap.size, 3, none⟩ = some (.int .i64 sx) := fun o => alloc_cell a3 o; have a4 : w8.cell? ⟨w.heap.size, 4, none⟩ = some (.int .i64 dm) := unhide HCL w8 Bz 4 _ rfl; have A4 : ∀ o, (w8.alloc o).cell? ⟨w.heap.size, 4, none⟩ = some (.int .i64 dm) := fun o => alloc_cell a4 o; have a5 : w8.cell? ⟨w.heap.size, 5, none⟩ = some (.int .i64 dr) := unhide HCL w8 Bz 5 _ rfl; have A5 : ∀ o, (w8.alloc o).cell? ⟨w.heap.size, 5, none⟩ = some (.int .i64 dr) := fun o => alloc_cell a5 o; have a6 : w8.cell? ⟨w.heap.size, 6, none⟩ = some (.int .i64 dx) := unhide HCL w8 Bz 6 _ rfl; have A6 : ∀ o, (w8.alloc o).cell? ⟨w.heap.size, 6, none⟩ = some (.int .i64 dx) := fun o => alloc_cell a6 o; have a7 : w8.cell? ⟨w.heap.size, 7, none⟩ = some (.int .i64 n) := unhide HCL w8 Bz 7 _ rfl; have A7 : ∀ o, (w8.alloc o).cell? ⟨w.heap.size, 7, none⟩ = some (.int .i64 n) := fun o => alloc_cell a7 o))
    have HN : v8 ≠ .slice none 0 0 := fun e => by have := hnil.1 e; omega
    have OO := hide (show OwnN w8 (w.heap.size + 1) v8 [b + q, dx] from hown)
    clear hown hgrow hnil K1
    go_wp2
    go_ret
    exact ⟨v8, rfl, HN, by rw [unhide HCo, unhide HXs]; exact (unhide OO).base (by omega), unhide HB _ Bz⟩

end Go.Proofs.Ytfkmibgamkignaa
