/- A drawn token, bent or not; over this seat's translation; conditions stand as hypotheses of each. -/
import Derived.Test.YthgbpofcfmnpdaaDoorLyD
namespace Go.Proofs.YthgbpofcfmnpdaaDoor
open Go.ChangeShapes Go.WideShapes Go.ChangeAt Go.RowKit
set_option linter.unusedVariables false
set_option maxRecDepth 8000
set_option linter.unusedSimpArgs false

/-- While a token is drawn and bent: the answer's block, the token's box, the cursor. -/
structure Bz (w wk : World) (cb g : Nat) (a : Option Addr) (len cap : Nat) (xs : List UInt8) (t : Tk) : Prop where
  res : wk.heap[w.heap.size]? = some (.cells #[.int .i64 0, .int .i64 0, .string ⟨#[]⟩] 31 (0, 0))
  box : wk.heap[g]? = some (.cells t.cs 31 (0, 0))
  cur : Cur wk cb a len cap xs
  bel : Below w.heap.size w wk
  o1 : w.heap.size < cb
  o2 : cb < g
section
variable {w wk w' : World} {cb g : Nat} {a : Option Addr} {len cap : Nat} {xs : List UInt8} {t : Tk}
theorem Bz.draw (h : Bz w wk cb g a len cap xs t) (hc : Cur w' cb a len cap xs) (hg : wk.grownBy w' (some cb)) : Bz w w' cb g a len cap xs t := by
  have h1 := h.o1
  have h2 := h.o2
  refine ⟨(hg.block _ (Array.getElem?_eq_some_iff.1 h.res).1 (fun e => by simp at e; omega)).trans h.res, (hg.block _ (Array.getElem?_eq_some_iff.1 h.box).1 (fun e => by simp at e; omega)).trans h.box, hc, h.bel.grown hg h.bel.size (fun k e => by cases e; omega), h1, h2⟩
theorem Bz.cells (h : Bz w wk cb g a len cap xs t) : wk.cell? ⟨g, 0, none⟩ = some (.int .i64 t.k) ∧ wk.cell? ⟨g, 1, none⟩ = some (.int .i64 t.n) ∧ wk.cell? ⟨g, 2, none⟩ = some (.string t.s) := tri_cells h.box
theorem Bz.frz (h : Bz w wk cb g a len cap xs t) (j : Nat) : wk.frozen? ⟨g, j, none⟩ = false := by simp [World.frozen?, h.box]
theorem Bz.res2 (h : Bz w wk cb g a len cap xs t) (j : Nat) (v : Value) : (wk.setCell ⟨g, j, none⟩ v).heap[w.heap.size]? = some (.cells #[.int .i64 0, .int .i64 0, .string ⟨#[]⟩] 31 (0, 0)) :=
  (Below.heap_setCell _ _ _ _ (by have h1 := h.o1; have h2 := h.o2; show w.heap.size ≠ g; omega)).trans h.res
theorem Bz.bel2 (h : Bz w wk cb g a len cap xs t) (j : Nat) (v : Value) : Below w.heap.size w (wk.setCell ⟨g, j, none⟩ v) := h.bel.setCell (p := ⟨g, j, none⟩) (by have h1 := h.o1; have h2 := h.o2; show w.heap.size ≤ g; omega) v
end
def L9g : List ByteArray := [⟨#[]⟩, ⟨#[97]⟩, ⟨#[109, 111, 118]⟩, ⟨#[46]⟩, ⟨#[46, 46]⟩, ⟨#[115, 101, 118, 101, 110, 108, 101]⟩, ⟨#[59]⟩]
theorem sz9g : ∀ j : Fin 7, (L9g.getD j.val E0).size ≤ 10 := by decide +kernel
set_option maxHeartbeats 2000000 in
theorem drawTokenOk_any (a : Option Addr) (len cap : Nat) (xs : List UInt8) (w : World) (hl : xs.length = len) (hm : len ≤ 1048576) (hr : Rd w a xs) :
    Calls Tryd.prog 15 #[.slice a len cap] w fun e w' => ∃ T : Tk, T.s.size ≤ 1099511627776 ∧ e = .returned T.v ∧ Below w.heap.size w w' := by
  have B0 := hide (below_new w (.cells T0c 31))
  have R0 := hide (heap_alloc_new w (.cells T0c 31))
  have Z0 := hide (show (w.alloc (.cells T0c 31)).heap.size = w.heap.size + 1 by simp)
  have N0 := hide (new_any a len cap xs (w.alloc (.cells T0c 31)) hl hm (hr.later (unhide B0)))
  unfold T0c at B0 R0 Z0 N0
  clear hr
  go_enter Tryd.func15, Tryd.ntmps15
  go_wp2_with fail
  generalize w.alloc (Obj.cells #[.int .i64 0, .int .i64 0, .string ⟨#[]⟩] 31) = W at *
  refine (unhide N0).mono ?_
  rintro e w1 ⟨rfl, hc1, hb1⟩
  have R1 := hide ((hb1.block _ (Array.getElem?_eq_some_iff.1 (unhide R0)).1).trans (unhide R0))
  have B1 := hide ((unhide B0).trans (hb1.mono (unhide B0).size))
  have o1 : w.heap.size < W.heap.size := by have := unhide Z0; omega
  have hcl := hc1.lt
  have DT := hide (drawT W.heap.size a len cap xs w1 hc1)
  generalize W.heap.size = cb at *
  clear hc1 hb1 N0 R0 B0 Z0
  go_wp2_with fail
  refine (unhide DT).mono ?_
  rintro e w2 ⟨⟨tk, tn, tx⟩, hok, rfl, hc2, hg2⟩
  have hsz := ok_size hok
  simp only at hsz
  have BZ := hide (show Bz w (w2.alloc (.cells (Tk.cs ⟨tk, tn, tx⟩) 31)) cb w2.heap.size a len cap xs ⟨tk, tn, tx⟩ from
    ⟨(Below.heap_alloc w2 _ _ (Nat.lt_of_lt_of_le (Array.getElem?_eq_some_iff.1 (unhide R1)).1 hg2.size)).trans ((hg2.block _ (Array.getElem?_eq_some_iff.1 (unhide R1)).1 (fun e => by simp at e; omega)).trans (unhide R1)), heap_alloc_new w2 _, hc2.later (below_new w2 _), ((unhide B1).grown hg2 (unhide B1).size (fun k e => by cases e; omega)).alloc (by have := (unhide B1).size; have := hg2.size; omega) _, o1, hc2.lt⟩)
  unfold Tk.v Tk.cs at *
  simp only at BZ ⊢
  clear hok hc2 hg2 DT R1 B1 hcl
  go_wp2_with fail
  generalize w2.alloc (Obj.cells #[.int .i64 tk, .int .i64 tn, .string tx] 31) = W3 at *
  generalize w2.heap.size = g at *
  refine (below_any cb a len cap xs 5 W3 (by omega) (unhide BZ).cur).mono ?_
  rintro e w4 ⟨x, hx0, hx1, rfl, hc4, hg4⟩
  obtain ⟨hx2, hx3⟩ := hx0 (by omega)
  have BZ4 := hide ((unhide BZ).draw hc4 hg4)
  have o2 := (unhide BZ4).o2
  clear hx0 hx1 hc4 hg4 BZ
  have h5 : x = 0 ∨ x = 1 ∨ x = 2 ∨ x = 3 ∨ x = 4 := by omega
  clear hx2 hx3
  have hgw : w.heap.size ≠ g := by omega
  rcases h5 with rfl | rfl | rfl | hx
  · have DB := hide (below_any cb a len cap xs 7 w4 (by omega) (unhide BZ4).cur)
    go_wp2_with fail
    refine (unhide DB).mono ?_
    rintro e w5 ⟨y, hy0, hy1, rfl, hc5, hg5⟩
    have BZ5 := hide ((unhide BZ4).draw hc5 hg5)
    clear hy0 hy1 hc5 hg5 DB
    obtain ⟨c0, c1, c2⟩ := (unhide BZ5).cells
    simp only at c0 c1 c2
    have f0 := (unhide BZ5).frz 0
    have RR := hide ((unhide BZ5).res2 0 (.int .i64 y))
    have BB := hide ((unhide BZ5).bel2 0 (.int .i64 y))
    clear BZ5 BZ4
    go_wp2_with (first | (refine wpList_store_row rfl 31 _ _ rfl w.heap.size #[.int .i64 y, .int .i64 tn, .string tx] rfl rfl 31 _ (unhide RR) szK rfl (tk_one _ _ _) ?_))
    refine bodyPost_ret (results_cell_row (P := Tryd.prog) rfl _ _ w.heap.size 31 #[.int .i64 y, .int .i64 tn, .string tx] (0, 0) _ rfl (setRow_heap _ _ _ _ _ _ (unhide RR)) Tryd.underlying31 rfl szK) rfl ?_
    exact ⟨⟨y, tn, tx⟩, (by show tx.size ≤ _; omega), rfl, below_row (unhide BB)⟩
  · have S1 := hide (strD L9g 7 cb a len cap xs w4 rfl (by omega) (by omega) (unhide BZ4).cur)
    go_wp2_with fail
    refine (unhide S1).mono ?_
    rintro e w5 ⟨j, hj, rfl, hc5, hg5⟩
    have BZ5 := hide ((unhide BZ4).draw hc5 hg5)
    have sz := sz9g ⟨j, hj⟩
    simp only at sz
    clear hc5 hg5 S1
    generalize L9g.getD j E0 = sx at *
    obtain ⟨c0, c1, c2⟩ := (unhide BZ5).cells
    simp only at c0 c1 c2
    have f2 := (unhide BZ5).frz 2
    have RR := hide ((unhide BZ5).res2 2 (.string sx))
    have BB := hide ((unhide BZ5).bel2 2 (.string sx))
    clear BZ5 BZ4
    go_wp2_with (first | (refine wpList_store_row rfl 31 _ _ rfl w.heap.size #[.int .i64 tk, .int .i64 tn, .string sx] rfl rfl 31 _ (unhide RR) szK rfl (tk_one _ _ _) ?_))
    refine bodyPost_ret (results_cell_row (P := Tryd.prog) rfl _ _ w.heap.size 31 #[.int .i64 tk, .int .i64 tn, .string sx] (0, 0) _ rfl (setRow_heap _ _ _ _ _ _ (unhide RR)) Tryd.underlying31 rfl szK) rfl ?_
    exact ⟨⟨tk, tn, sx⟩, (by show sx.size ≤ _; omega), rfl, below_row (unhide BB)⟩
  · have hlt4 := (unhide BZ4).cur.lt
    have I1 := hide (int_any cb a len cap xs (some ⟨w4.heap.size, 0, none⟩) 3 3 [-1, 1, 65536] (w4.alloc (.cells ([-1, 1, 65536].map (Value.int .i64)).toArray 3)) ((unhide BZ4).cur.later ((Below.refl _ _).alloc (Nat.le_refl _) _)) (RdN_lit w4 _) (fun ad e => by cases e; show w4.heap.size ≠ cb; omega) rfl (by omega) (by omega))
    have G1 := hide (World.grownBy_alloc w4 (.cells ([-1, 1, 65536].map (Value.int .i64)).toArray 3) (some cb))
    go_wp2_with fail
    refine (unhide I1).mono ?_
    rintro e w5 ⟨j, hj, rfl, hc5, hg5⟩
    have BZ5 := hide ((unhide BZ4).draw hc5 (grownBy_trans (unhide G1) hg5))
    clear hc5 hg5 I1 G1
    generalize nAt [-1, 1, 65536] j = y at *
    obtain ⟨c0, c1, c2⟩ := (unhide BZ5).cells
    simp only at c0 c1 c2
    have f1 := (unhide BZ5).frz 1
    have RR := hide ((unhide BZ5).res2 1 (.int .i64 y))
    have BB := hide ((unhide BZ5).bel2 1 (.int .i64 y))
    clear BZ5 BZ4
    go_wp2_with (first | (refine wpList_store_row rfl 31 _ _ rfl w.heap.size #[.int .i64 tk, .int .i64 y, .string tx] rfl rfl 31 _ (unhide RR) szK rfl (tk_one _ _ _) ?_))
    refine bodyPost_ret (results_cell_row (P := Tryd.prog) rfl _ _ w.heap.size 31 #[.int .i64 tk, .int .i64 y, .string tx] (0, 0) _ rfl (setRow_heap _ _ _ _ _ _ (unhide RR)) Tryd.underlying31 rfl szK) rfl ?_
    exact ⟨⟨tk, y, tx⟩, (by show tx.size ≤ _; omega), rfl, below_row (unhide BB)⟩
  · have hxa : (x == 0) = false := beq_eq_false_iff_ne.2 (by omega)
    have hxb : (x == 1) = false := beq_eq_false_iff_ne.2 (by omega)
    have hxc : (x == 2) = false := beq_eq_false_iff_ne.2 (by omega)
    obtain ⟨c0, c1, c2⟩ := (unhide BZ4).cells
    simp only at c0 c1 c2
    have RR := hide (unhide BZ4).res
    have BB := hide (unhide BZ4).bel
    clear BZ4 hx
    go_wp2_with (first | (refine wpList_store_row rfl 31 _ _ rfl w.heap.size #[.int .i64 tk, .int .i64 tn, .string tx] rfl rfl 31 _ (unhide RR) szK rfl (tk_one _ _ _) ?_))
    refine bodyPost_ret (results_cell_row (P := Tryd.prog) rfl _ _ w.heap.size 31 #[.int .i64 tk, .int .i64 tn, .string tx] (0, 0) _ rfl (setRow_heap _ _ _ _ _ _ (unhide RR)) Tryd.underlying31 rfl szK) rfl ?_
    exact ⟨⟨tk, tn, tx⟩, (by show tx.size ≤ _; omega), rfl, below_row (unhide BB)⟩
end Go.Proofs.YthgbpofcfmnpdaaDoor
