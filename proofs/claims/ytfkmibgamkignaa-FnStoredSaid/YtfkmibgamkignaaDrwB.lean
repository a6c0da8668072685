/- Drawn operands, over this seat's translation; conditions stand as hypotheses of each. -/
import Derived.Test.YtfkmibgamkignaaDrwA
import Derived.Test.YtfkmibgamkignaaMacQ
namespace Go.Proofs.Ytfkmibgamkignaa
open Go.ChangeShapes Go.WideShapes Go.ChangeAt Go.RowKit
set_option linter.unusedVariables false
set_option maxRecDepth 8000
set_option linter.unusedSimpArgs false

theorem inB_f (x a b : Int) (h : x < a ∨ b < x) : inB x a b = false := by unfold inB; rw [Bool.and_eq_false_iff]; simp; omega
theorem eqB_t (x a : Int) (h : x = a) : (x == a) = true := by simp [h]
theorem eqB_f (x a : Int) (h : x ≠ a) : (x == a) = false := by simp [h]
theorem modes_bd : ∀ i : Fin 10, 0 ≤ nAt [0, 0, 1, 2, 3, 4, 5, 6, 7, 2] i.val ∧ nAt [0, 0, 1, 2, 3, 4, 5, 6, 7, 2] i.val ≤ 7 := by decide +kernel
theorem regs_bd : ∀ i : Fin 7, 0 ≤ nAt [0, 1, 2, 5, 6, 7, 7] i.val ∧ nAt [0, 1, 2, 5, 6, 7, 7] i.val ≤ 7 := by decide +kernel
theorem od_okI {o : Od} (hm : 0 ≤ o.m ∧ o.m ≤ 7) (hr : 0 ≤ o.r ∧ o.r ≤ 7) (hx : 0 ≤ o.x ∧ o.x ≤ 65535) (h : o.hasX = true ∨ o.x = 0) : o.ok = true := by
  unfold Od.ok
  rw [inB_t _ _ _ hm, inB_t _ _ _ hr, inB_t _ _ _ hx]
  rcases h with h | h
  · rw [h]; rfl
  · simp [h]
/-- The literal list that a draw takes its number of, at the world where it is laid. -/
theorem int_lit (cb : Nat) (a : Option Addr) (len cap : Nat) (xs : List UInt8) (w : World) (hc : Cur w cb a len cap xs) (L : List Int) (m : Nat) (hm : L.length = m) (h0 : 0 < m) (hb : m ≤ 1048576) (g : Nat) (hg : w.heap.size = g) (o : Obj) (ho : o = (.cells (L.map (Value.int .i64)).toArray 3)) :
    Calls Try.prog 48 #[.pointer (some ⟨cb, 0, none⟩), .slice (some ⟨g, 0, none⟩) m m] (w.alloc o) fun e w' => ∃ j : Nat, j < m ∧ e = .returned (.int .i64 (nAt L j)) ∧ Cur w' cb a len cap xs ∧ (w.alloc o).grownBy w' (some cb) := by
  subst hg
  subst ho
  exact int_any cb a len cap xs (some ⟨w.heap.size, 0, none⟩) m m L _ (hc.later ((Below.refl _ _).alloc (Nat.le_refl _) _)) (RdN_lit w _) (fun ad e => by cases e; show w.heap.size ≠ cb; have := hc.lt; omega) hm h0 hb

set_option maxHeartbeats 2000000 in
set_option maxRecDepth 100000 in
theorem opdD_any (cb : Nat) (a : Option Addr) (len cap : Nat) (xs : List UInt8) (w : World) (hc : Cur w cb a len cap xs) :
    Calls Try.prog 62 #[.pointer (some ⟨cb, 0, none⟩)] w fun e w' => ∃ o : Od, o.ok = true ∧ e = .returned o.v ∧ Cur w' cb a len cap xs ∧ w.grownBy w' (some cb) := by
  have hlt := hc.lt
  have E0 := hide (ez_new hc #[c8 [0, 0, 0] 0, c8 [0, 0, 0] 1, c8 [0, 0, 0] 2] 40 3 (c8 [0, 0, 0]) (row3_new w [0, 0, 0] 40))
  have I0 := hide (int_lit cb a len cap xs (w.alloc (Obj.cells #[c8 [0, 0, 0] 0, c8 [0, 0, 0] 1, c8 [0, 0, 0] 2] 40)) (unhide E0).cur [0, 0, 1, 2, 3, 4, 5, 6, 7, 2] 10 rfl (by omega) (by omega) (w.heap.size + 1) (by simp) _ rfl)
  clear hc
  go_enter Try.func62, Try.ntmps62
  go_wp2_with fail
  refine (unhide I0).mono ?_
  rintro e w1 ⟨j1, hj1, rfl, hc1, hg1⟩
  have hmb := modes_bd ⟨j1, hj1⟩
  simp only at hmb
  generalize nAt [0, 0, 1, 2, 3, 4, 5, 6, 7, 2] j1 = m at hmb ⊢
  have E1 := hide (((unhide E0).alloc _).draw hc1 hg1)
  have I1 := hide (int_lit cb a len cap xs w1 hc1 [0, 1, 2, 5, 6, 7, 7] 7 rfl (by omega) (by omega) w1.heap.size rfl _ rfl)
  clear hc1 hg1 I0 E0 hj1
  go_wp2_with fail
  refine (unhide I1).mono ?_
  rintro e w2 ⟨j2, hj2, rfl, hc2, hg2⟩
  have hrb := regs_bd ⟨j2, hj2⟩
  simp only at hrb
  generalize nAt [0, 1, 2, 5, 6, 7, 7] j2 = r at hrb ⊢
  have E2 := hide ((((unhide E1).alloc _).draw hc2 hg2).alloc (Obj.cells #[c8 [m, r, 0] 0, c8 [m, r, 0] 1, c8 [m, r, 0] 2] 40))
  have R2 := hide (row3_new w2 [m, r, 0] 40)
  have s2 : w.heap.size < w2.heap.size := by
    have h1 := (unhide E1).res.lt
    have h2 := hg2.size
    simp at h2
    omega
  clear hc2 hg2 I1 E1 hj2
  go_wp2_with fail
  refine (hasX_any ⟨m, r, 0⟩ _).mono ?_
  rintro e w3 ⟨rfl, hb3⟩
  have E3 := hide ((unhide E2).later hb3)
  have R3 := hide (row_later (unhide R2) hb3)
  clear hb3 E2 R2
  cases hX : Od.hasX ⟨m, r, 0⟩
  · have rr := unhide R3
    have ee := (unhide E3).res
    have x0 : w3.cell? ⟨w2.heap.size, 0, none⟩ = some (.int .i64 (m)) := rr.cell (i := 0) (by omega)
    have g0 := rr.frozen 0
    have c0 : w3.cell? ⟨w.heap.size, 0, none⟩ = some (.int .i64 0) := ee.cell (i := 0) (by omega)
    have f0 := ee.frozen 0
    have x1 : w3.cell? ⟨w2.heap.size, 1, none⟩ = some (.int .i64 (r)) := rr.cell (i := 1) (by omega)
    have g1 := rr.frozen 1
    have c1 : w3.cell? ⟨w.heap.size, 1, none⟩ = some (.int .i64 0) := ee.cell (i := 1) (by omega)
    have f1 := ee.frozen 1
    have x2 : w3.cell? ⟨w2.heap.size, 2, none⟩ = some (.int .i64 (0)) := rr.cell (i := 2) (by omega)
    have g2 := rr.frozen 2
    have c2 : w3.cell? ⟨w.heap.size, 2, none⟩ = some (.int .i64 0) := ee.cell (i := 2) (by omega)
    have f2 := ee.frozen 2
    clear rr ee
    have EF := hide ((((((unhide E3).setR 0 _ (c8 [m, 0, 0]) (row3_set (unhide E3).res 0 _ (fun j hj => by rcases j with _ | _ | _ | j <;> first | rfl | omega)))).setR 1 _ (c8 [m, r, 0]) (row3_set (((unhide E3).setR 0 _ (c8 [m, 0, 0]) (row3_set (unhide E3).res 0 _ (fun j hj => by rcases j with _ | _ | _ | j <;> first | rfl | omega)))).res 1 _ (fun j hj => by rcases j with _ | _ | _ | j <;> first | rfl | omega)))).setR 2 _ (c8 [m, r, 0]) (row3_set (((((unhide E3).setR 0 _ (c8 [m, 0, 0]) (row3_set (unhide E3).res 0 _ (fun j hj => by rcases j with _ | _ | _ | j <;> first | rfl | omega)))).setR 1 _ (c8 [m, r, 0]) (row3_set (((unhide E3).setR 0 _ (c8 [m, 0, 0]) (row3_set (unhide E3).res 0 _ (fun j hj => by rcases j with _ | _ | _ | j <;> first | rfl | omega)))).res 1 _ (fun j hj => by rcases j with _ | _ | _ | j <;> first | rfl | omega)))).res 2 _ (fun j hj => by rcases j with _ | _ | _ | j <;> first | rfl | omega)))
    go_wp2
    refine bodyPost_ret (results_cell_row (P := Try.prog) rfl _ _ w.heap.size 40 #[.int .i64 (m), .int .i64 (r), .int .i64 (0)] (0, 0) _ rfl (row3_heap (unhide EF).res) Try.underlying40 rfl (by kernel_rfl)) rfl ?_
    exact ⟨⟨m, r, 0⟩, od_okI hmb hrb (by simp) (.inr rfl), rfl, (unhide EF).cur, (unhide EF).gr⟩
  · have W3 := hide (word_any cb a len cap xs w3 (unhide E3).cur)
    go_wp2_with fail
    refine (unhide W3).mono ?_
    rintro e w4 ⟨x, hx0, hx1, rfl, hc4, hg4⟩
    have E4 := hide (((unhide E3).draw hc4 hg4).setO s2 2 (.int .i64 x))
    have R3' := hide (row_draw (unhide R3) hg4 (by omega))
    have R4 := hide (row3_set (unhide R3') 2 x (l' := [m, r, x]) (fun j hj => by rcases j with _ | _ | _ | j <;> first | rfl | omega))
    have ee3 := (unhide E3).draw hc4 hg4
    clear hc4 hg4 W3 E3 R3
    have x0 : w4.cell? ⟨w2.heap.size, 0, none⟩ = some (.int .i64 (m)) := (unhide R3').cell (i := 0) (by omega)
    have g0 := (unhide R3').frozen 0
    have c0 : w4.cell? ⟨w.heap.size, 0, none⟩ = some (.int .i64 0) := ee3.res.cell (i := 0) (by omega)
    have f0 := ee3.res.frozen 0
    have x1 : w4.cell? ⟨w2.heap.size, 1, none⟩ = some (.int .i64 (r)) := (unhide R3').cell (i := 1) (by omega)
    have g1 := (unhide R3').frozen 1
    have c1 : w4.cell? ⟨w.heap.size, 1, none⟩ = some (.int .i64 0) := ee3.res.cell (i := 1) (by omega)
    have f1 := ee3.res.frozen 1
    have x2 : w4.cell? ⟨w2.heap.size, 2, none⟩ = some (.int .i64 (0)) := (unhide R3').cell (i := 2) (by omega)
    have g2 := (unhide R3').frozen 2
    have c2 : w4.cell? ⟨w.heap.size, 2, none⟩ = some (.int .i64 0) := ee3.res.cell (i := 2) (by omega)
    have f2 := ee3.res.frozen 2
    clear ee3
    have EF := hide ((((((unhide E4).setR 0 _ (c8 [m, 0, 0]) (row3_set (unhide E4).res 0 _ (fun j hj => by rcases j with _ | _ | _ | j <;> first | rfl | omega)))).setR 1 _ (c8 [m, r, 0]) (row3_set (((unhide E4).setR 0 _ (c8 [m, 0, 0]) (row3_set (unhide E4).res 0 _ (fun j hj => by rcases j with _ | _ | _ | j <;> first | rfl | omega)))).res 1 _ (fun j hj => by rcases j with _ | _ | _ | j <;> first | rfl | omega)))).setR 2 _ (c8 [m, r, x]) (row3_set (((((unhide E4).setR 0 _ (c8 [m, 0, 0]) (row3_set (unhide E4).res 0 _ (fun j hj => by rcases j with _ | _ | _ | j <;> first | rfl | omega)))).setR 1 _ (c8 [m, r, 0]) (row3_set (((unhide E4).setR 0 _ (c8 [m, 0, 0]) (row3_set (unhide E4).res 0 _ (fun j hj => by rcases j with _ | _ | _ | j <;> first | rfl | omega)))).res 1 _ (fun j hj => by rcases j with _ | _ | _ | j <;> first | rfl | omega)))).res 2 _ (fun j hj => by rcases j with _ | _ | _ | j <;> first | rfl | omega)))
    have hne : w.heap.size ≠ w2.heap.size := by omega
    go_wp2
    refine bodyPost_ret (results_cell_row (P := Try.prog) rfl _ _ w.heap.size 40 #[.int .i64 m, .int .i64 r, .int .i64 x] (0, 0) _ rfl (row3_heap (unhide EF).res) Try.underlying40 rfl (by kernel_rfl)) rfl ?_
    exact ⟨⟨m, r, x⟩, od_okI hmb hrb ⟨hx0, hx1⟩ (.inl hX), rfl, (unhide EF).cur, (unhide EF).gr⟩
end Go.Proofs.Ytfkmibgamkignaa
