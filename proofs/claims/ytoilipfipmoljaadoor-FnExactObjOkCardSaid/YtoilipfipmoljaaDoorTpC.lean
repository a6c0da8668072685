/- Contracts over this seat's translation, laid together; conditions stand as hypotheses of each. -/
import Derived.Test.YtoilipfipmoljaaDoorTpB
import Derived.Laws.Cover1
import Derived.SliceStrings
namespace Go.Proofs.YtoilipfipmoljaaDoor
open Go.ChangeShapes Go.WideShapes Go.ChangeAt Go.RowKit
set_option maxHeartbeats 16000000
set_option linter.unusedVariables false
set_option maxRecDepth 8000
set_option linter.unusedSimpArgs false
theorem foldS_sub0 {d : Nat} (k : Int) (hk : 5 ≤ k ∧ k ≤ 10) (a b : Ex) (iha : FoR a) (ihb : FoR b) (oa : okF (d + 1) false (foldX a) = true) (ob : okF (d + 1) false (foldX b) = true) (f0 : ((foldX a).k == 1) = false) (g6 : (k == 6) = true) : FoR ⟨k, 0, ⟨#[]⟩, [a, b]⟩ := by
 intro bb cap w hr
 rw [fold_two]
 obtain ⟨p, off, rfl, hpl, hc⟩ := hr.at (by simp)
 obtain ⟨c0, c1, c2, q0, qp0, c3, r0⟩ := hc 0 (by simp)
 obtain ⟨e0, e1, e2, q1, qp1, e3, r1⟩ := hc 1 (by simp)
 have xa : xAt (Ex.mk k 0 ⟨#[]⟩ [a, b]).l 0 = a := rfl
 have xb : xAt (Ex.mk k 0 ⟨#[]⟩ [a, b]).l 1 = b := rfl
 rw [xa] at c0 c1 c2 c3 r0
 rw [xb] at e0 e1 e2 e3 r1
 simp only [Nat.zero_mul, Nat.add_zero, Nat.one_mul] at c0 c1 c2 c3 e0 e1 e2 e3
 have X0 := hide (Bx.new w #[.int .i64 k, .int .i64 0, .string ⟨#[]⟩, .slice (some ⟨p, off, none⟩) 2 cap])
 have IA := hide (iha q0 qp0 _ (RdX.later r0 (uh X0).bel))
 have IB := hide (fun wr (h : Below w.heap.size w wr) => ihb q1 qp1 wr (RdX.later r1 h))
 have d0 := ((uh X0).bel.cell (p := ⟨p, off, none⟩) hpl).trans c0
 have d1 := ((uh X0).bel.cell (p := ⟨p, off + 1, none⟩) hpl).trans c1
 have d2 := ((uh X0).bel.cell (p := ⟨p, off + 2, none⟩) hpl).trans c2
 have d3 := ((uh X0).bel.cell (p := ⟨p, off + 3, none⟩) hpl).trans c3
 have E0' := hide (fun wr (h : Below w.heap.size w wr) => (h.cell (p := ⟨p, off + 4, none⟩) hpl).trans e0)
 have E1' := hide (fun wr (h : Below w.heap.size w wr) => (h.cell (p := ⟨p, off + 4 + 1, none⟩) hpl).trans e1)
 have E2' := hide (fun wr (h : Below w.heap.size w wr) => (h.cell (p := ⟨p, off + 4 + 2, none⟩) hpl).trans e2)
 have E3' := hide (fun wr (h : Below w.heap.size w wr) => (h.cell (p := ⟨p, off + 4 + 3, none⟩) hpl).trans e3)
 have g4 : (k == 4) = false := beq_eq_false_iff_ne.2 (by omega)
 have OA := hide oa
 have OB := hide ob
 have ia : 0 ≤ (foldX a).n ∧ (foldX a).n ≤ 65535 ∨ (foldX a).k ≠ 1 := by
  by_cases h : (foldX a).k = 1
  · obtain ⟨m, hm, e⟩ := ok_k1 oa h; rw [e]; exact .inl hm
  · exact .inr h
 have ib : 0 ≤ (foldX b).n ∧ (foldX b).n ≤ 65535 ∨ (foldX b).k ≠ 1 := by
  by_cases h : (foldX b).k = 1
  · obtain ⟨m, hm, e⟩ := ok_k1 ob h; rw [e]; exact .inl hm
  · exact .inr h
 have EQ := hide (show foldN k (foldX a) (foldX b) = subX (foldX a) (foldX b) by unfold foldN mixX; rw [if_neg (fun h => by have := beq_eq_false_iff_ne.1 f0; exact this h.1), if_pos (beq_iff_eq.1 g6)])
 rw [uh EQ]
 generalize hX : GiR _ (Up w) w = X
 have HX := hide hX
 unfold GiR Ex.cs at IA IB
 show Calls Tryd.prog 42 #[.agg #[.int .i64 k, .int .i64 0, .string ⟨#[]⟩, .slice (some ⟨p, off, none⟩) 2 cap]] w X
 generalize (foldX a) = x at *
 generalize (foldX b) = y at *
 clear hX hr hc c0 c1 c2 c3 e0 e1 e2 e3 r0 r1 iha ihb EQ xa xb oa ob
 go_enter Tryd.func42, Tryd.ntmps42
 go_wp2_with fail
 generalize (w.alloc (.cells #[.int .i64 k, .int .i64 0, .string ⟨#[]⟩, .slice (some ⟨p, off, none⟩) 2 cap] 43)).alloc (.cells #[.int .i64 0, .int .i64 0, .string ⟨#[]⟩, .slice none 0 0] 43) = W at *
 clear d0 d1 d2 d3
 refine (uh IA).mono ?_
 rintro r w1 ⟨ca, cpa, rfl, hx, hb1⟩
 have hb2 := below_new w1 (.cells #[.int .i64 x.k, .int .i64 x.n, .string x.s, .slice ca x.l.length cpa] 43)
 have hb12 := hb1.trans (hb2.mono hb1.size)
 have X2 := hide ((uh X0).later hb12)
 have hzW := (uh X0).lt
 have A2 := hide (hx.low.later hb2)
 have G2 := hide (show (w1.alloc (.cells #[.int .i64 x.k, .int .i64 x.n, .string x.s, .slice ca x.l.length cpa] 43)).heap[w1.heap.size]? = some (.cells #[.int .i64 x.k, .int .i64 x.n, .string x.s, .slice ca x.l.length cpa] 43 (0, 0)) from Array.getElem?_push_size)
 have z0 := Lib.cell_of_heap (uh X2).box 0
 have z3 := Lib.cell_of_heap (uh X2).box 3
 have d0 := uh E0' _ (uh X2).bel
 have d1 := uh E1' _ (uh X2).bel
 have d2 := uh E2' _ (uh X2).bel
 have d3 := uh E3' _ (uh X2).bel
 have IB2 := hide (uh IB _ (uh X2).bel)
 have S1 := hide hb1.size
 have hz12 : w1.heap.size < (w1.alloc (.cells #[.int .i64 x.k, .int .i64 x.n, .string x.s, .slice ca x.l.length cpa] 43)).heap.size := by simp
 have HZ2 := hide hz12
 clear hx hb1 hb2 hb12 X0 IA IB E0' E1' E2' E3' hz12
 go_wp2_with fail
 generalize w1.alloc (.cells #[.int .i64 x.k, .int .i64 x.n, .string x.s, .slice ca x.l.length cpa] 43) = w2 at *
 clear d0 d1 d2 d3 z0 z3
 refine (uh IB2).mono ?_
 rintro r w3 ⟨cb, cpb, rfl, hy, hb3⟩
 have hb4 := below_new w3 (.cells #[.int .i64 y.k, .int .i64 y.n, .string y.s, .slice cb y.l.length cpb] 43)
 have hb34 := hb3.trans (hb4.mono hb3.size)
 have X4 := hide ((uh X2).later hb34)
 have A4 := hide ((uh A2).later hb34)
 have B4 := hide (hy.later hb4)
 have G4 := hide (row_keep (uh G2) hb34)
 have K4 := hide (show (w3.alloc (.cells #[.int .i64 y.k, .int .i64 y.n, .string y.s, .slice cb y.l.length cpb] 43)).heap[w3.heap.size]? = some (.cells #[.int .i64 y.k, .int .i64 y.n, .string y.s, .slice cb y.l.length cpb] 43 (0, 0)) from Array.getElem?_push_size)
 have z0 := Lib.cell_of_heap (uh X4).box 0
 have y0 := Lib.cell_of_heap (uh G4) 0
 have y1 := Lib.cell_of_heap (uh G4) 1
 have u0 := Lib.cell_of_heap (uh K4) 0
 have u1 := Lib.cell_of_heap (uh K4) 1
 have DJ := hide (show ∀ b, (Up W b ∧ b < w1.heap.size) → ¬ Up w2 b from fun b h k => by have := uh HZ2; have h2 : w2.heap.size ≤ b := k; omega)
 have PR := hide (show ∀ b, (Up W b ∧ b < w1.heap.size) → Ow w (Up w) b from fun b h => up_ow (Nat.le_trans hzW h.1))
 have QR := hide (show ∀ b, Up w2 b → Ow w (Up w) b from fun b h => up_ow (Nat.le_trans (uh X2).lt h))
 have HR := hide (show ∀ b, (w3.alloc (.cells #[.int .i64 y.k, .int .i64 y.n, .string y.s, .slice cb y.l.length cpb] 43)).heap.size ≤ b → Ow w (Up w) b from fun b h => up_ow (Nat.le_trans (uh X4).lt h))
 clear hy hb3 hb4 hb34 X2 A2 G2 IB2
 have CL := hide (subS_any x y (uh OA) (uh OB) ca cb cpa cpb _ _ (Ow w (Up w)) (w3.alloc (.cells #[.int .i64 y.k, .int .i64 y.n, .string y.s, .slice cb y.l.length cpb] 43)) (uh A4) (uh B4) (uh DJ) (uh PR) (uh QR) (uh HR))
 unfold GiR Ex.cs at CL
 go_wp2_with (first | (refine wpList_load_row rfl 43 _ rfl w1.heap.size rfl 43 #[.int .i64 x.k, .int .i64 x.n, .string x.s, .slice ca x.l.length cpa] (0, 0) _ (uh G4) Tryd.underlying43 rfl (by kernel_rfl) ?_) | (refine wpList_load_row rfl 43 _ rfl w3.heap.size rfl 43 #[.int .i64 y.k, .int .i64 y.n, .string y.s, .slice cb y.l.length cpb] (0, 0) _ (uh K4) Tryd.underlying43 rfl (by kernel_rfl) ?_))
 generalize w3.alloc (.cells #[.int .i64 y.k, .int .i64 y.n, .string y.s, .slice cb y.l.length cpb] 43) = w4 at *
 clear z0 y0 y1 u0 u1
 refine (uh CL).mono ?_
 rintro r w5 ⟨c5, cp5, rfl, hx5, hb5⟩
 have X5 := hide ((uh X4).later hb5)
 have A5 := hide hx5
 clear hx5 hb5 X4 A4 B4 G4 K4 CL
 generalize subX x y = z at *
 go_wp2_with (refine wpList_store_row rfl 43 _ _ rfl (w.heap.size + 1) #[.int .i64 z.k, .int .i64 z.n, .string z.s, .slice c5 z.l.length cp5] rfl rfl 43 _ ((uh X5).res) szE rfl (ex_one _ _ _ _ _ _) ?_)
 refine bodyPost_ret (results_cell_row (P := Tryd.prog) rfl _ _ (w.heap.size + 1) 43 #[.int .i64 z.k, .int .i64 z.n, .string z.s, .slice c5 z.l.length cp5] (0, 0) _ rfl (setRow_heap _ _ _ _ _ _ ((uh X5).res)) Tryd.underlying43 rfl szE) rfl ?_
 rw [← uh HX]
 exact (uh X5).end (uh A5) _
theorem foldS_mix0 {d : Nat} (k : Int) (hk : 5 ≤ k ∧ k ≤ 10) (a b : Ex) (iha : FoR a) (ihb : FoR b) (oa : okF (d + 1) false (foldX a) = true) (ob : okF (d + 1) false (foldX b) = true) (f0 : ((foldX a).k == 1) = false) (g6 : (k == 6) = false) (g5 : (k == 5) = false) : FoR ⟨k, 0, ⟨#[]⟩, [a, b]⟩ := by
 intro bb cap w hr
 rw [fold_two]
 obtain ⟨p, off, rfl, hpl, hc⟩ := hr.at (by simp)
 obtain ⟨c0, c1, c2, q0, qp0, c3, r0⟩ := hc 0 (by simp)
 obtain ⟨e0, e1, e2, q1, qp1, e3, r1⟩ := hc 1 (by simp)
 have xa : xAt (Ex.mk k 0 ⟨#[]⟩ [a, b]).l 0 = a := rfl
 have xb : xAt (Ex.mk k 0 ⟨#[]⟩ [a, b]).l 1 = b := rfl
 rw [xa] at c0 c1 c2 c3 r0
 rw [xb] at e0 e1 e2 e3 r1
 simp only [Nat.zero_mul, Nat.add_zero, Nat.one_mul] at c0 c1 c2 c3 e0 e1 e2 e3
 have X0 := hide (Bx.new w #[.int .i64 k, .int .i64 0, .string ⟨#[]⟩, .slice (some ⟨p, off, none⟩) 2 cap])
 have IA := hide (iha q0 qp0 _ (RdX.later r0 (uh X0).bel))
 have IB := hide (fun wr (h : Below w.heap.size w wr) => ihb q1 qp1 wr (RdX.later r1 h))
 have d0 := ((uh X0).bel.cell (p := ⟨p, off, none⟩) hpl).trans c0
 have d1 := ((uh X0).bel.cell (p := ⟨p, off + 1, none⟩) hpl).trans c1
 have d2 := ((uh X0).bel.cell (p := ⟨p, off + 2, none⟩) hpl).trans c2
 have d3 := ((uh X0).bel.cell (p := ⟨p, off + 3, none⟩) hpl).trans c3
 have E0' := hide (fun wr (h : Below w.heap.size w wr) => (h.cell (p := ⟨p, off + 4, none⟩) hpl).trans e0)
 have E1' := hide (fun wr (h : Below w.heap.size w wr) => (h.cell (p := ⟨p, off + 4 + 1, none⟩) hpl).trans e1)
 have E2' := hide (fun wr (h : Below w.heap.size w wr) => (h.cell (p := ⟨p, off + 4 + 2, none⟩) hpl).trans e2)
 have E3' := hide (fun wr (h : Below w.heap.size w wr) => (h.cell (p := ⟨p, off + 4 + 3, none⟩) hpl).trans e3)
 have g4 : (k == 4) = false := beq_eq_false_iff_ne.2 (by omega)
 have OA := hide oa
 have OB := hide ob
 have ia : 0 ≤ (foldX a).n ∧ (foldX a).n ≤ 65535 ∨ (foldX a).k ≠ 1 := by
  by_cases h : (foldX a).k = 1
  · obtain ⟨m, hm, e⟩ := ok_k1 oa h; rw [e]; exact .inl hm
  · exact .inr h
 have ib : 0 ≤ (foldX b).n ∧ (foldX b).n ≤ 65535 ∨ (foldX b).k ≠ 1 := by
  by_cases h : (foldX b).k = 1
  · obtain ⟨m, hm, e⟩ := ok_k1 ob h; rw [e]; exact .inl hm
  · exact .inr h
 have EQ := hide (show foldN k (foldX a) (foldX b) = ⟨k, 0, ⟨#[]⟩, [(foldX a), (foldX b)]⟩ by unfold foldN mixX; rw [if_neg (fun h => by have := beq_eq_false_iff_ne.1 f0; exact this h.1), if_neg (beq_eq_false_iff_ne.1 g6), if_neg (fun h => beq_eq_false_iff_ne.1 g5 h.1), if_neg (fun h => beq_eq_false_iff_ne.1 g5 h.1)]; rfl)
 rw [uh EQ]
 generalize hX : GiR _ (Up w) w = X
 have HX := hide hX
 unfold GiR Ex.cs at IA IB
 show Calls Tryd.prog 42 #[.agg #[.int .i64 k, .int .i64 0, .string ⟨#[]⟩, .slice (some ⟨p, off, none⟩) 2 cap]] w X
 generalize (foldX a) = x at *
 generalize (foldX b) = y at *
 clear hX hr hc c0 c1 c2 c3 e0 e1 e2 e3 r0 r1 iha ihb EQ xa xb oa ob
 go_enter Tryd.func42, Tryd.ntmps42
 go_wp2_with fail
 generalize (w.alloc (.cells #[.int .i64 k, .int .i64 0, .string ⟨#[]⟩, .slice (some ⟨p, off, none⟩) 2 cap] 43)).alloc (.cells #[.int .i64 0, .int .i64 0, .string ⟨#[]⟩, .slice none 0 0] 43) = W at *
 clear d0 d1 d2 d3
 refine (uh IA).mono ?_
 rintro r w1 ⟨ca, cpa, rfl, hx, hb1⟩
 have hb2 := below_new w1 (.cells #[.int .i64 x.k, .int .i64 x.n, .string x.s, .slice ca x.l.length cpa] 43)
 have hb12 := hb1.trans (hb2.mono hb1.size)
 have X2 := hide ((uh X0).later hb12)
 have hzW := (uh X0).lt
 have A2 := hide (hx.low.later hb2)
 have G2 := hide (show (w1.alloc (.cells #[.int .i64 x.k, .int .i64 x.n, .string x.s, .slice ca x.l.length cpa] 43)).heap[w1.heap.size]? = some (.cells #[.int .i64 x.k, .int .i64 x.n, .string x.s, .slice ca x.l.length cpa] 43 (0, 0)) from Array.getElem?_push_size)
 have z0 := Lib.cell_of_heap (uh X2).box 0
 have z3 := Lib.cell_of_heap (uh X2).box 3
 have d0 := uh E0' _ (uh X2).bel
 have d1 := uh E1' _ (uh X2).bel
 have d2 := uh E2' _ (uh X2).bel
 have d3 := uh E3' _ (uh X2).bel
 have IB2 := hide (uh IB _ (uh X2).bel)
 have S1 := hide hb1.size
 have hz12 : w1.heap.size < (w1.alloc (.cells #[.int .i64 x.k, .int .i64 x.n, .string x.s, .slice ca x.l.length cpa] 43)).heap.size := by simp
 have HZ2 := hide hz12
 clear hx hb1 hb2 hb12 X0 IA IB E0' E1' E2' E3' hz12
 go_wp2_with fail
 generalize w1.alloc (.cells #[.int .i64 x.k, .int .i64 x.n, .string x.s, .slice ca x.l.length cpa] 43) = w2 at *
 clear d0 d1 d2 d3 z0 z3
 refine (uh IB2).mono ?_
 rintro r w3 ⟨cb, cpb, rfl, hy, hb3⟩
 have hb4 := below_new w3 (.cells #[.int .i64 y.k, .int .i64 y.n, .string y.s, .slice cb y.l.length cpb] 43)
 have hb34 := hb3.trans (hb4.mono hb3.size)
 have X4 := hide ((uh X2).later hb34)
 have A4 := hide ((uh A2).later hb34)
 have B4 := hide (hy.later hb4)
 have G4 := hide (row_keep (uh G2) hb34)
 have K4 := hide (show (w3.alloc (.cells #[.int .i64 y.k, .int .i64 y.n, .string y.s, .slice cb y.l.length cpb] 43)).heap[w3.heap.size]? = some (.cells #[.int .i64 y.k, .int .i64 y.n, .string y.s, .slice cb y.l.length cpb] 43 (0, 0)) from Array.getElem?_push_size)
 have z0 := Lib.cell_of_heap (uh X4).box 0
 have y0 := Lib.cell_of_heap (uh G4) 0
 have y1 := Lib.cell_of_heap (uh G4) 1
 have u0 := Lib.cell_of_heap (uh K4) 0
 have u1 := Lib.cell_of_heap (uh K4) 1
 have DJ := hide (show ∀ b, (Up W b ∧ b < w1.heap.size) → ¬ Up w2 b from fun b h k => by have := uh HZ2; have h2 : w2.heap.size ≤ b := k; omega)
 have PR := hide (show ∀ b, (Up W b ∧ b < w1.heap.size) → Ow w (Up w) b from fun b h => up_ow (Nat.le_trans hzW h.1))
 have QR := hide (show ∀ b, Up w2 b → Ow w (Up w) b from fun b h => up_ow (Nat.le_trans (uh X2).lt h))
 have HR := hide (show ∀ b, (w3.alloc (.cells #[.int .i64 y.k, .int .i64 y.n, .string y.s, .slice cb y.l.length cpb] 43)).heap.size ≤ b → Ow w (Up w) b from fun b h => up_ow (Nat.le_trans (uh X4).lt h))
 clear hy hb3 hb4 hb34 X2 A2 G2 IB2
 have hb5 := below_new (w3.alloc (.cells #[.int .i64 y.k, .int .i64 y.n, .string y.s, .slice cb y.l.length cpb] 43)) (.cells #[.int .i64 x.k, .int .i64 x.n, .string x.s, .slice ca x.l.length cpa, .int .i64 y.k, .int .i64 y.n, .string y.s, .slice cb y.l.length cpb] 43)
 have X5 := hide ((uh X4).later hb5)
 have hz5 : (w3.alloc (.cells #[.int .i64 y.k, .int .i64 y.n, .string y.s, .slice cb y.l.length cpb] 43)).heap.size = w3.heap.size + 1 := by simp
 have N5' := (show PX ((w3.alloc (.cells #[.int .i64 y.k, .int .i64 y.n, .string y.s, .slice cb y.l.length cpb] 43)).alloc (.cells #[.int .i64 x.k, .int .i64 x.n, .string x.s, .slice ca x.l.length cpa, .int .i64 y.k, .int .i64 y.n, .string y.s, .slice cb y.l.length cpb] 43)) (Ow w (Up w)) ⟨k, 0, ⟨#[]⟩, [x, y]⟩ (some ⟨(w3.alloc (.cells #[.int .i64 y.k, .int .i64 y.n, .string y.s, .slice cb y.l.length cpb] 43)).heap.size, 0, none⟩) from (uh A4).two (uh B4) (uh DJ) (uh PR) (uh QR) (uh HR _ (Nat.le_refl _)) k 0 ⟨#[]⟩ 43)
 rw [hz5] at N5'
 have N5 := hide N5'
 clear hb5 N5' hz5
 go_wp2_with (first | (refine wpList_load_row rfl 43 _ rfl w1.heap.size rfl 43 #[.int .i64 x.k, .int .i64 x.n, .string x.s, .slice ca x.l.length cpa] (0, 0) _ (uh G4) Tryd.underlying43 rfl (by kernel_rfl) ?_) | (refine wpList_load_row rfl 43 _ rfl w3.heap.size rfl 43 #[.int .i64 y.k, .int .i64 y.n, .string y.s, .slice cb y.l.length cpb] (0, 0) _ (uh K4) Tryd.underlying43 rfl (by kernel_rfl) ?_) | (refine wpList_store_row rfl 43 _ _ rfl (w.heap.size + 1) #[.int .i64 k, .int .i64 0, .string ⟨#[]⟩, .slice (some ⟨w3.heap.size + 1, 0, none⟩) 2 2] rfl rfl 43 _ ((uh X5).res) szE rfl (ex_one _ _ _ _ _ _) ?_))
 refine bodyPost_ret (results_cell_row (P := Tryd.prog) rfl _ _ (w.heap.size + 1) 43 #[.int .i64 k, .int .i64 0, .string ⟨#[]⟩, .slice (some ⟨w3.heap.size + 1, 0, none⟩) 2 2] (0, 0) _ rfl (setRow_heap _ _ _ _ _ _ ((uh X5).res)) Tryd.underlying43 rfl szE) rfl ?_
 rw [← uh HX]
 exact Bx.end (x := ⟨k, 0, ⟨#[]⟩, [x, y]⟩) (uh X5) (uh N5) _
theorem foldS_sub1 {d : Nat} (k : Int) (hk : 5 ≤ k ∧ k ≤ 10) (a b : Ex) (iha : FoR a) (ihb : FoR b) (oa : okF (d + 1) false (foldX a) = true) (ob : okF (d + 1) false (foldX b) = true) (f0 : ((foldX a).k == 1) = true) (f1 : ((foldX b).k == 1) = false) (g6 : (k == 6) = true) : FoR ⟨k, 0, ⟨#[]⟩, [a, b]⟩ := by
 intro bb cap w hr
 rw [fold_two]
 obtain ⟨p, off, rfl, hpl, hc⟩ := hr.at (by simp)
 obtain ⟨c0, c1, c2, q0, qp0, c3, r0⟩ := hc 0 (by simp)
 obtain ⟨e0, e1, e2, q1, qp1, e3, r1⟩ := hc 1 (by simp)
 have xa : xAt (Ex.mk k 0 ⟨#[]⟩ [a, b]).l 0 = a := rfl
 have xb : xAt (Ex.mk k 0 ⟨#[]⟩ [a, b]).l 1 = b := rfl
 rw [xa] at c0 c1 c2 c3 r0
 rw [xb] at e0 e1 e2 e3 r1
 simp only [Nat.zero_mul, Nat.add_zero, Nat.one_mul] at c0 c1 c2 c3 e0 e1 e2 e3
 have X0 := hide (Bx.new w #[.int .i64 k, .int .i64 0, .string ⟨#[]⟩, .slice (some ⟨p, off, none⟩) 2 cap])
 have IA := hide (iha q0 qp0 _ (RdX.later r0 (uh X0).bel))
 have IB := hide (fun wr (h : Below w.heap.size w wr) => ihb q1 qp1 wr (RdX.later r1 h))
 have d0 := ((uh X0).bel.cell (p := ⟨p, off, none⟩) hpl).trans c0
 have d1 := ((uh X0).bel.cell (p := ⟨p, off + 1, none⟩) hpl).trans c1
 have d2 := ((uh X0).bel.cell (p := ⟨p, off + 2, none⟩) hpl).trans c2
 have d3 := ((uh X0).bel.cell (p := ⟨p, off + 3, none⟩) hpl).trans c3
 have E0' := hide (fun wr (h : Below w.heap.size w wr) => (h.cell (p := ⟨p, off + 4, none⟩) hpl).trans e0)
 have E1' := hide (fun wr (h : Below w.heap.size w wr) => (h.cell (p := ⟨p, off + 4 + 1, none⟩) hpl).trans e1)
 have E2' := hide (fun wr (h : Below w.heap.size w wr) => (h.cell (p := ⟨p, off + 4 + 2, none⟩) hpl).trans e2)
 have E3' := hide (fun wr (h : Below w.heap.size w wr) => (h.cell (p := ⟨p, off + 4 + 3, none⟩) hpl).trans e3)
 have g4 : (k == 4) = false := beq_eq_false_iff_ne.2 (by omega)
 have OA := hide oa
 have OB := hide ob
 have ia : 0 ≤ (foldX a).n ∧ (foldX a).n ≤ 65535 ∨ (foldX a).k ≠ 1 := by
  by_cases h : (foldX a).k = 1
  · obtain ⟨m, hm, e⟩ := ok_k1 oa h; rw [e]; exact .inl hm
  · exact .inr h
 have ib : 0 ≤ (foldX b).n ∧ (foldX b).n ≤ 65535 ∨ (foldX b).k ≠ 1 := by
  by_cases h : (foldX b).k = 1
  · obtain ⟨m, hm, e⟩ := ok_k1 ob h; rw [e]; exact .inl hm
  · exact .inr h
 have EQ := hide (show foldN k (foldX a) (foldX b) = subX (foldX a) (foldX b) by unfold foldN mixX; rw [if_neg (fun h => by have := beq_eq_false_iff_ne.1 f1; exact this h.2), if_pos (beq_iff_eq.1 g6)])
 rw [uh EQ]
 generalize hX : GiR _ (Up w) w = X
 have HX := hide hX
 unfold GiR Ex.cs at IA IB
 show Calls Tryd.prog 42 #[.agg #[.int .i64 k, .int .i64 0, .string ⟨#[]⟩, .slice (some ⟨p, off, none⟩) 2 cap]] w X
 generalize (foldX a) = x at *
 generalize (foldX b) = y at *
 clear hX hr hc c0 c1 c2 c3 e0 e1 e2 e3 r0 r1 iha ihb EQ xa xb oa ob
 go_enter Tryd.func42, Tryd.ntmps42
 go_wp2_with fail
 generalize (w.alloc (.cells #[.int .i64 k, .int .i64 0, .string ⟨#[]⟩, .slice (some ⟨p, off, none⟩) 2 cap] 43)).alloc (.cells #[.int .i64 0, .int .i64 0, .string ⟨#[]⟩, .slice none 0 0] 43) = W at *
 clear d0 d1 d2 d3
 refine (uh IA).mono ?_
 rintro r w1 ⟨ca, cpa, rfl, hx, hb1⟩
 have hb2 := below_new w1 (.cells #[.int .i64 x.k, .int .i64 x.n, .string x.s, .slice ca x.l.length cpa] 43)
 have hb12 := hb1.trans (hb2.mono hb1.size)
 have X2 := hide ((uh X0).later hb12)
 have hzW := (uh X0).lt
 have A2 := hide (hx.low.later hb2)
 have G2 := hide (show (w1.alloc (.cells #[.int .i64 x.k, .int .i64 x.n, .string x.s, .slice ca x.l.length cpa] 43)).heap[w1.heap.size]? = some (.cells #[.int .i64 x.k, .int .i64 x.n, .string x.s, .slice ca x.l.length cpa] 43 (0, 0)) from Array.getElem?_push_size)
 have z0 := Lib.cell_of_heap (uh X2).box 0
 have z3 := Lib.cell_of_heap (uh X2).box 3
 have d0 := uh E0' _ (uh X2).bel
 have d1 := uh E1' _ (uh X2).bel
 have d2 := uh E2' _ (uh X2).bel
 have d3 := uh E3' _ (uh X2).bel
 have IB2 := hide (uh IB _ (uh X2).bel)
 have S1 := hide hb1.size
 have hz12 : w1.heap.size < (w1.alloc (.cells #[.int .i64 x.k, .int .i64 x.n, .string x.s, .slice ca x.l.length cpa] 43)).heap.size := by simp
 have HZ2 := hide hz12
 clear hx hb1 hb2 hb12 X0 IA IB E0' E1' E2' E3' hz12
 go_wp2_with fail
 generalize w1.alloc (.cells #[.int .i64 x.k, .int .i64 x.n, .string x.s, .slice ca x.l.length cpa] 43) = w2 at *
 clear d0 d1 d2 d3 z0 z3
 refine (uh IB2).mono ?_
 rintro r w3 ⟨cb, cpb, rfl, hy, hb3⟩
 have hb4 := below_new w3 (.cells #[.int .i64 y.k, .int .i64 y.n, .string y.s, .slice cb y.l.length cpb] 43)
 have hb34 := hb3.trans (hb4.mono hb3.size)
 have X4 := hide ((uh X2).later hb34)
 have A4 := hide ((uh A2).later hb34)
 have B4 := hide (hy.later hb4)
 have G4 := hide (row_keep (uh G2) hb34)
 have K4 := hide (show (w3.alloc (.cells #[.int .i64 y.k, .int .i64 y.n, .string y.s, .slice cb y.l.length cpb] 43)).heap[w3.heap.size]? = some (.cells #[.int .i64 y.k, .int .i64 y.n, .string y.s, .slice cb y.l.length cpb] 43 (0, 0)) from Array.getElem?_push_size)
 have z0 := Lib.cell_of_heap (uh X4).box 0
 have y0 := Lib.cell_of_heap (uh G4) 0
 have y1 := Lib.cell_of_heap (uh G4) 1
 have u0 := Lib.cell_of_heap (uh K4) 0
 have u1 := Lib.cell_of_heap (uh K4) 1
 have DJ := hide (show ∀ b, (Up W b ∧ b < w1.heap.size) → ¬ Up w2 b from fun b h k => by have := uh HZ2; have h2 : w2.heap.size ≤ b := k; omega)
 have PR := hide (show ∀ b, (Up W b ∧ b < w1.heap.size) → Ow w (Up w) b from fun b h => up_ow (Nat.le_trans hzW h.1))
 have QR := hide (show ∀ b, Up w2 b → Ow w (Up w) b from fun b h => up_ow (Nat.le_trans (uh X2).lt h))
 have HR := hide (show ∀ b, (w3.alloc (.cells #[.int .i64 y.k, .int .i64 y.n, .string y.s, .slice cb y.l.length cpb] 43)).heap.size ≤ b → Ow w (Up w) b from fun b h => up_ow (Nat.le_trans (uh X4).lt h))
 clear hy hb3 hb4 hb34 X2 A2 G2 IB2
 have CL := hide (subS_any x y (uh OA) (uh OB) ca cb cpa cpb _ _ (Ow w (Up w)) (w3.alloc (.cells #[.int .i64 y.k, .int .i64 y.n, .string y.s, .slice cb y.l.length cpb] 43)) (uh A4) (uh B4) (uh DJ) (uh PR) (uh QR) (uh HR))
 unfold GiR Ex.cs at CL
 go_wp2_with (first | (refine wpList_load_row rfl 43 _ rfl w1.heap.size rfl 43 #[.int .i64 x.k, .int .i64 x.n, .string x.s, .slice ca x.l.length cpa] (0, 0) _ (uh G4) Tryd.underlying43 rfl (by kernel_rfl) ?_) | (refine wpList_load_row rfl 43 _ rfl w3.heap.size rfl 43 #[.int .i64 y.k, .int .i64 y.n, .string y.s, .slice cb y.l.length cpb] (0, 0) _ (uh K4) Tryd.underlying43 rfl (by kernel_rfl) ?_))
 generalize w3.alloc (.cells #[.int .i64 y.k, .int .i64 y.n, .string y.s, .slice cb y.l.length cpb] 43) = w4 at *
 clear z0 y0 y1 u0 u1
 refine (uh CL).mono ?_
 rintro r w5 ⟨c5, cp5, rfl, hx5, hb5⟩
 have X5 := hide ((uh X4).later hb5)
 have A5 := hide hx5
 clear hx5 hb5 X4 A4 B4 G4 K4 CL
 generalize subX x y = z at *
 go_wp2_with (refine wpList_store_row rfl 43 _ _ rfl (w.heap.size + 1) #[.int .i64 z.k, .int .i64 z.n, .string z.s, .slice c5 z.l.length cp5] rfl rfl 43 _ ((uh X5).res) szE rfl (ex_one _ _ _ _ _ _) ?_)
 refine bodyPost_ret (results_cell_row (P := Tryd.prog) rfl _ _ (w.heap.size + 1) 43 #[.int .i64 z.k, .int .i64 z.n, .string z.s, .slice c5 z.l.length cp5] (0, 0) _ rfl (setRow_heap _ _ _ _ _ _ ((uh X5).res)) Tryd.underlying43 rfl szE) rfl ?_
 rw [← uh HX]
 exact (uh X5).end (uh A5) _
theorem foldS_mix1 {d : Nat} (k : Int) (hk : 5 ≤ k ∧ k ≤ 10) (a b : Ex) (iha : FoR a) (ihb : FoR b) (oa : okF (d + 1) false (foldX a) = true) (ob : okF (d + 1) false (foldX b) = true) (f0 : ((foldX a).k == 1) = true) (f1 : ((foldX b).k == 1) = false) (g6 : (k == 6) = false) (g5 : (k == 5) = false) : FoR ⟨k, 0, ⟨#[]⟩, [a, b]⟩ := by
 intro bb cap w hr
 rw [fold_two]
 obtain ⟨p, off, rfl, hpl, hc⟩ := hr.at (by simp)
 obtain ⟨c0, c1, c2, q0, qp0, c3, r0⟩ := hc 0 (by simp)
 obtain ⟨e0, e1, e2, q1, qp1, e3, r1⟩ := hc 1 (by simp)
 have xa : xAt (Ex.mk k 0 ⟨#[]⟩ [a, b]).l 0 = a := rfl
 have xb : xAt (Ex.mk k 0 ⟨#[]⟩ [a, b]).l 1 = b := rfl
 rw [xa] at c0 c1 c2 c3 r0
 rw [xb] at e0 e1 e2 e3 r1
 simp only [Nat.zero_mul, Nat.add_zero, Nat.one_mul] at c0 c1 c2 c3 e0 e1 e2 e3
 have X0 := hide (Bx.new w #[.int .i64 k, .int .i64 0, .string ⟨#[]⟩, .slice (some ⟨p, off, none⟩) 2 cap])
 have IA := hide (iha q0 qp0 _ (RdX.later r0 (uh X0).bel))
 have IB := hide (fun wr (h : Below w.heap.size w wr) => ihb q1 qp1 wr (RdX.later r1 h))
 have d0 := ((uh X0).bel.cell (p := ⟨p, off, none⟩) hpl).trans c0
 have d1 := ((uh X0).bel.cell (p := ⟨p, off + 1, none⟩) hpl).trans c1
 have d2 := ((uh X0).bel.cell (p := ⟨p, off + 2, none⟩) hpl).trans c2
 have d3 := ((uh X0).bel.cell (p := ⟨p, off + 3, none⟩) hpl).trans c3
 have E0' := hide (fun wr (h : Below w.heap.size w wr) => (h.cell (p := ⟨p, off + 4, none⟩) hpl).trans e0)
 have E1' := hide (fun wr (h : Below w.heap.size w wr) => (h.cell (p := ⟨p, off + 4 + 1, none⟩) hpl).trans e1)
 have E2' := hide (fun wr (h : Below w.heap.size w wr) => (h.cell (p := ⟨p, off + 4 + 2, none⟩) hpl).trans e2)
 have E3' := hide (fun wr (h : Below w.heap.size w wr) => (h.cell (p := ⟨p, off + 4 + 3, none⟩) hpl).trans e3)
 have g4 : (k == 4) = false := beq_eq_false_iff_ne.2 (by omega)
 have OA := hide oa
 have OB := hide ob
 have ia : 0 ≤ (foldX a).n ∧ (foldX a).n ≤ 65535 ∨ (foldX a).k ≠ 1 := by
  by_cases h : (foldX a).k = 1
  · obtain ⟨m, hm, e⟩ := ok_k1 oa h; rw [e]; exact .inl hm
  · exact .inr h
 have ib : 0 ≤ (foldX b).n ∧ (foldX b).n ≤ 65535 ∨ (foldX b).k ≠ 1 := by
  by_cases h : (foldX b).k = 1
  · obtain ⟨m, hm, e⟩ := ok_k1 ob h; rw [e]; exact .inl hm
  · exact .inr h
 have EQ := hide (show foldN k (foldX a) (foldX b) = ⟨k, 0, ⟨#[]⟩, [(foldX a), (foldX b)]⟩ by unfold foldN mixX; rw [if_neg (fun h => by have := beq_eq_false_iff_ne.1 f1; exact this h.2), if_neg (beq_eq_false_iff_ne.1 g6), if_neg (fun h => beq_eq_false_iff_ne.1 g5 h.1), if_neg (fun h => beq_eq_false_iff_ne.1 g5 h.1)]; rfl)
 rw [uh EQ]
 generalize hX : GiR _ (Up w) w = X
 have HX := hide hX
 unfold GiR Ex.cs at IA IB
 show Calls Tryd.prog 42 #[.agg #[.int .i64 k, .int .i64 0, .string ⟨#[]⟩, .slice (some ⟨p, off, none⟩) 2 cap]] w X
 generalize (foldX a) = x at *
 generalize (foldX b) = y at *
 clear hX hr hc c0 c1 c2 c3 e0 e1 e2 e3 r0 r1 iha ihb EQ xa xb oa ob
 go_enter Tryd.func42, Tryd.ntmps42
 go_wp2_with fail
 generalize (w.alloc (.cells #[.int .i64 k, .int .i64 0, .string ⟨#[]⟩, .slice (some ⟨p, off, none⟩) 2 cap] 43)).alloc (.cells #[.int .i64 0, .int .i64 0, .string ⟨#[]⟩, .slice none 0 0] 43) = W at *
 clear d0 d1 d2 d3
 refine (uh IA).mono ?_
 rintro r w1 ⟨ca, cpa, rfl, hx, hb1⟩
 have hb2 := below_new w1 (.cells #[.int .i64 x.k, .int .i64 x.n, .string x.s, .slice ca x.l.length cpa] 43)
 have hb12 := hb1.trans (hb2.mono hb1.size)
 have X2 := hide ((uh X0).later hb12)
 have hzW := (uh X0).lt
 have A2 := hide (hx.low.later hb2)
 have G2 := hide (show (w1.alloc (.cells #[.int .i64 x.k, .int .i64 x.n, .string x.s, .slice ca x.l.length cpa] 43)).heap[w1.heap.size]? = some (.cells #[.int .i64 x.k, .int .i64 x.n, .string x.s, .slice ca x.l.length cpa] 43 (0, 0)) from Array.getElem?_push_size)
 have z0 := Lib.cell_of_heap (uh X2).box 0
 have z3 := Lib.cell_of_heap (uh X2).box 3
 have d0 := uh E0' _ (uh X2).bel
 have d1 := uh E1' _ (uh X2).bel
 have d2 := uh E2' _ (uh X2).bel
 have d3 := uh E3' _ (uh X2).bel
 have IB2 := hide (uh IB _ (uh X2).bel)
 have S1 := hide hb1.size
 have hz12 : w1.heap.size < (w1.alloc (.cells #[.int .i64 x.k, .int .i64 x.n, .string x.s, .slice ca x.l.length cpa] 43)).heap.size := by simp
 have HZ2 := hide hz12
 clear hx hb1 hb2 hb12 X0 IA IB E0' E1' E2' E3' hz12
 go_wp2_with fail
 generalize w1.alloc (.cells #[.int .i64 x.k, .int .i64 x.n, .string x.s, .slice ca x.l.length cpa] 43) = w2 at *
 clear d0 d1 d2 d3 z0 z3
 refine (uh IB2).mono ?_
 rintro r w3 ⟨cb, cpb, rfl, hy, hb3⟩
 have hb4 := below_new w3 (.cells #[.int .i64 y.k, .int .i64 y.n, .string y.s, .slice cb y.l.length cpb] 43)
 have hb34 := hb3.trans (hb4.mono hb3.size)
 have X4 := hide ((uh X2).later hb34)
 have A4 := hide ((uh A2).later hb34)
 have B4 := hide (hy.later hb4)
 have G4 := hide (row_keep (uh G2) hb34)
 have K4 := hide (show (w3.alloc (.cells #[.int .i64 y.k, .int .i64 y.n, .string y.s, .slice cb y.l.length cpb] 43)).heap[w3.heap.size]? = some (.cells #[.int .i64 y.k, .int .i64 y.n, .string y.s, .slice cb y.l.length cpb] 43 (0, 0)) from Array.getElem?_push_size)
 have z0 := Lib.cell_of_heap (uh X4).box 0
 have y0 := Lib.cell_of_heap (uh G4) 0
 have y1 := Lib.cell_of_heap (uh G4) 1
 have u0 := Lib.cell_of_heap (uh K4) 0
 have u1 := Lib.cell_of_heap (uh K4) 1
 have DJ := hide (show ∀ b, (Up W b ∧ b < w1.heap.size) → ¬ Up w2 b from fun b h k => by have := uh HZ2; have h2 : w2.heap.size ≤ b := k; omega)
 have PR := hide (show ∀ b, (Up W b ∧ b < w1.heap.size) → Ow w (Up w) b from fun b h => up_ow (Nat.le_trans hzW h.1))
 have QR := hide (show ∀ b, Up w2 b → Ow w (Up w) b from fun b h => up_ow (Nat.le_trans (uh X2).lt h))
 have HR := hide (show ∀ b, (w3.alloc (.cells #[.int .i64 y.k, .int .i64 y.n, .string y.s, .slice cb y.l.length cpb] 43)).heap.size ≤ b → Ow w (Up w) b from fun b h => up_ow (Nat.le_trans (uh X4).lt h))
 clear hy hb3 hb4 hb34 X2 A2 G2 IB2
 have hb5 := below_new (w3.alloc (.cells #[.int .i64 y.k, .int .i64 y.n, .string y.s, .slice cb y.l.length cpb] 43)) (.cells #[.int .i64 x.k, .int .i64 x.n, .string x.s, .slice ca x.l.length cpa, .int .i64 y.k, .int .i64 y.n, .string y.s, .slice cb y.l.length cpb] 43)
 have X5 := hide ((uh X4).later hb5)
 have hz5 : (w3.alloc (.cells #[.int .i64 y.k, .int .i64 y.n, .string y.s, .slice cb y.l.length cpb] 43)).heap.size = w3.heap.size + 1 := by simp
 have N5' := (show PX ((w3.alloc (.cells #[.int .i64 y.k, .int .i64 y.n, .string y.s, .slice cb y.l.length cpb] 43)).alloc (.cells #[.int .i64 x.k, .int .i64 x.n, .string x.s, .slice ca x.l.length cpa, .int .i64 y.k, .int .i64 y.n, .string y.s, .slice cb y.l.length cpb] 43)) (Ow w (Up w)) ⟨k, 0, ⟨#[]⟩, [x, y]⟩ (some ⟨(w3.alloc (.cells #[.int .i64 y.k, .int .i64 y.n, .string y.s, .slice cb y.l.length cpb] 43)).heap.size, 0, none⟩) from (uh A4).two (uh B4) (uh DJ) (uh PR) (uh QR) (uh HR _ (Nat.le_refl _)) k 0 ⟨#[]⟩ 43)
 rw [hz5] at N5'
 have N5 := hide N5'
 clear hb5 N5' hz5
 go_wp2_with (first | (refine wpList_load_row rfl 43 _ rfl w1.heap.size rfl 43 #[.int .i64 x.k, .int .i64 x.n, .string x.s, .slice ca x.l.length cpa] (0, 0) _ (uh G4) Tryd.underlying43 rfl (by kernel_rfl) ?_) | (refine wpList_load_row rfl 43 _ rfl w3.heap.size rfl 43 #[.int .i64 y.k, .int .i64 y.n, .string y.s, .slice cb y.l.length cpb] (0, 0) _ (uh K4) Tryd.underlying43 rfl (by kernel_rfl) ?_) | (refine wpList_store_row rfl 43 _ _ rfl (w.heap.size + 1) #[.int .i64 k, .int .i64 0, .string ⟨#[]⟩, .slice (some ⟨w3.heap.size + 1, 0, none⟩) 2 2] rfl rfl 43 _ ((uh X5).res) szE rfl (ex_one _ _ _ _ _ _) ?_))
 refine bodyPost_ret (results_cell_row (P := Tryd.prog) rfl _ _ (w.heap.size + 1) 43 #[.int .i64 k, .int .i64 0, .string ⟨#[]⟩, .slice (some ⟨w3.heap.size + 1, 0, none⟩) 2 2] (0, 0) _ rfl (setRow_heap _ _ _ _ _ _ ((uh X5).res)) Tryd.underlying43 rfl szE) rfl ?_
 rw [← uh HX]
 exact Bx.end (x := ⟨k, 0, ⟨#[]⟩, [x, y]⟩) (uh X5) (uh N5) _
theorem foldS_add1 {d : Nat} (k : Int) (hk : 5 ≤ k ∧ k ≤ 10) (a b : Ex) (iha : FoR a) (ihb : FoR b) (oa : okF (d + 1) false (foldX a) = true) (ob : okF (d + 1) false (foldX b) = true) (f0 : ((foldX a).k == 1) = true) (f1 : ((foldX b).k == 1) = false) (g6 : (k == 6) = false) (g5 : (k == 5) = true) : FoR ⟨k, 0, ⟨#[]⟩, [a, b]⟩ := by
 intro bb cap w hr
 rw [fold_two]
 obtain ⟨p, off, rfl, hpl, hc⟩ := hr.at (by simp)
 obtain ⟨c0, c1, c2, q0, qp0, c3, r0⟩ := hc 0 (by simp)
 obtain ⟨e0, e1, e2, q1, qp1, e3, r1⟩ := hc 1 (by simp)
 have xa : xAt (Ex.mk k 0 ⟨#[]⟩ [a, b]).l 0 = a := rfl
 have xb : xAt (Ex.mk k 0 ⟨#[]⟩ [a, b]).l 1 = b := rfl
 rw [xa] at c0 c1 c2 c3 r0
 rw [xb] at e0 e1 e2 e3 r1
 simp only [Nat.zero_mul, Nat.add_zero, Nat.one_mul] at c0 c1 c2 c3 e0 e1 e2 e3
 have X0 := hide (Bx.new w #[.int .i64 k, .int .i64 0, .string ⟨#[]⟩, .slice (some ⟨p, off, none⟩) 2 cap])
 have IA := hide (iha q0 qp0 _ (RdX.later r0 (uh X0).bel))
 have IB := hide (fun wr (h : Below w.heap.size w wr) => ihb q1 qp1 wr (RdX.later r1 h))
 have d0 := ((uh X0).bel.cell (p := ⟨p, off, none⟩) hpl).trans c0
 have d1 := ((uh X0).bel.cell (p := ⟨p, off + 1, none⟩) hpl).trans c1
 have d2 := ((uh X0).bel.cell (p := ⟨p, off + 2, none⟩) hpl).trans c2
 have d3 := ((uh X0).bel.cell (p := ⟨p, off + 3, none⟩) hpl).trans c3
 have E0' := hide (fun wr (h : Below w.heap.size w wr) => (h.cell (p := ⟨p, off + 4, none⟩) hpl).trans e0)
 have E1' := hide (fun wr (h : Below w.heap.size w wr) => (h.cell (p := ⟨p, off + 4 + 1, none⟩) hpl).trans e1)
 have E2' := hide (fun wr (h : Below w.heap.size w wr) => (h.cell (p := ⟨p, off + 4 + 2, none⟩) hpl).trans e2)
 have E3' := hide (fun wr (h : Below w.heap.size w wr) => (h.cell (p := ⟨p, off + 4 + 3, none⟩) hpl).trans e3)
 have g4 : (k == 4) = false := beq_eq_false_iff_ne.2 (by omega)
 have OA := hide oa
 have OB := hide ob
 have ia : 0 ≤ (foldX a).n ∧ (foldX a).n ≤ 65535 ∨ (foldX a).k ≠ 1 := by
  by_cases h : (foldX a).k = 1
  · obtain ⟨m, hm, e⟩ := ok_k1 oa h; rw [e]; exact .inl hm
  · exact .inr h
 have ib : 0 ≤ (foldX b).n ∧ (foldX b).n ≤ 65535 ∨ (foldX b).k ≠ 1 := by
  by_cases h : (foldX b).k = 1
  · obtain ⟨m, hm, e⟩ := ok_k1 ob h; rw [e]; exact .inl hm
  · exact .inr h
 have EQ := hide (show foldN k (foldX a) (foldX b) = sumX (foldX b) (foldX a).n by unfold foldN mixX; rw [if_neg (fun h => by have := beq_eq_false_iff_ne.1 f1; exact this h.2), if_neg (beq_eq_false_iff_ne.1 g6), if_pos ⟨beq_iff_eq.1 g5, beq_iff_eq.1 f0⟩])
 rw [uh EQ]
 generalize hX : GiR _ (Up w) w = X
 have HX := hide hX
 unfold GiR Ex.cs at IA IB
 show Calls Tryd.prog 42 #[.agg #[.int .i64 k, .int .i64 0, .string ⟨#[]⟩, .slice (some ⟨p, off, none⟩) 2 cap]] w X
 generalize (foldX a) = x at *
 generalize (foldX b) = y at *
 clear hX hr hc c0 c1 c2 c3 e0 e1 e2 e3 r0 r1 iha ihb EQ xa xb oa ob
 go_enter Tryd.func42, Tryd.ntmps42
 go_wp2_with fail
 generalize (w.alloc (.cells #[.int .i64 k, .int .i64 0, .string ⟨#[]⟩, .slice (some ⟨p, off, none⟩) 2 cap] 43)).alloc (.cells #[.int .i64 0, .int .i64 0, .string ⟨#[]⟩, .slice none 0 0] 43) = W at *
 clear d0 d1 d2 d3
 refine (uh IA).mono ?_
 rintro r w1 ⟨ca, cpa, rfl, hx, hb1⟩
 have hb2 := below_new w1 (.cells #[.int .i64 x.k, .int .i64 x.n, .string x.s, .slice ca x.l.length cpa] 43)
 have hb12 := hb1.trans (hb2.mono hb1.size)
 have X2 := hide ((uh X0).later hb12)
 have hzW := (uh X0).lt
 have A2 := hide (hx.low.later hb2)
 have G2 := hide (show (w1.alloc (.cells #[.int .i64 x.k, .int .i64 x.n, .string x.s, .slice ca x.l.length cpa] 43)).heap[w1.heap.size]? = some (.cells #[.int .i64 x.k, .int .i64 x.n, .string x.s, .slice ca x.l.length cpa] 43 (0, 0)) from Array.getElem?_push_size)
 have z0 := Lib.cell_of_heap (uh X2).box 0
 have z3 := Lib.cell_of_heap (uh X2).box 3
 have d0 := uh E0' _ (uh X2).bel
 have d1 := uh E1' _ (uh X2).bel
 have d2 := uh E2' _ (uh X2).bel
 have d3 := uh E3' _ (uh X2).bel
 have IB2 := hide (uh IB _ (uh X2).bel)
 have S1 := hide hb1.size
 have hz12 : w1.heap.size < (w1.alloc (.cells #[.int .i64 x.k, .int .i64 x.n, .string x.s, .slice ca x.l.length cpa] 43)).heap.size := by simp
 have HZ2 := hide hz12
 clear hx hb1 hb2 hb12 X0 IA IB E0' E1' E2' E3' hz12
 go_wp2_with fail
 generalize w1.alloc (.cells #[.int .i64 x.k, .int .i64 x.n, .string x.s, .slice ca x.l.length cpa] 43) = w2 at *
 clear d0 d1 d2 d3 z0 z3
 refine (uh IB2).mono ?_
 rintro r w3 ⟨cb, cpb, rfl, hy, hb3⟩
 have hb4 := below_new w3 (.cells #[.int .i64 y.k, .int .i64 y.n, .string y.s, .slice cb y.l.length cpb] 43)
 have hb34 := hb3.trans (hb4.mono hb3.size)
 have X4 := hide ((uh X2).later hb34)
 have A4 := hide ((uh A2).later hb34)
 have B4 := hide (hy.later hb4)
 have G4 := hide (row_keep (uh G2) hb34)
 have K4 := hide (show (w3.alloc (.cells #[.int .i64 y.k, .int .i64 y.n, .string y.s, .slice cb y.l.length cpb] 43)).heap[w3.heap.size]? = some (.cells #[.int .i64 y.k, .int .i64 y.n, .string y.s, .slice cb y.l.length cpb] 43 (0, 0)) from Array.getElem?_push_size)
 have z0 := Lib.cell_of_heap (uh X4).box 0
 have y0 := Lib.cell_of_heap (uh G4) 0
 have y1 := Lib.cell_of_heap (uh G4) 1
 have u0 := Lib.cell_of_heap (uh K4) 0
 have u1 := Lib.cell_of_heap (uh K4) 1
 have DJ := hide (show ∀ b, (Up W b ∧ b < w1.heap.size) → ¬ Up w2 b from fun b h k => by have := uh HZ2; have h2 : w2.heap.size ≤ b := k; omega)
 have PR := hide (show ∀ b, (Up W b ∧ b < w1.heap.size) → Ow w (Up w) b from fun b h => up_ow (Nat.le_trans hzW h.1))
 have QR := hide (show ∀ b, Up w2 b → Ow w (Up w) b from fun b h => up_ow (Nat.le_trans (uh X2).lt h))
 have HR := hide (show ∀ b, (w3.alloc (.cells #[.int .i64 y.k, .int .i64 y.n, .string y.s, .slice cb y.l.length cpb] 43)).heap.size ≤ b → Ow w (Up w) b from fun b h => up_ow (Nat.le_trans (uh X4).lt h))
 clear hy hb3 hb4 hb34 X2 A2 G2 IB2
 have CL := hide (sumS_any y (uh OB) cb cpb x.n (by have := ia.resolve_right (fun h => h (beq_iff_eq.1 f0)); omega) (Ow w (Up w)) (w3.alloc (.cells #[.int .i64 y.k, .int .i64 y.n, .string y.s, .slice cb y.l.length cpb] 43)) ((uh B4).mono (uh QR)) (uh HR))
 unfold GiR Ex.cs at CL
 go_wp2_with (first | (refine wpList_load_row rfl 43 _ rfl w3.heap.size rfl 43 #[.int .i64 y.k, .int .i64 y.n, .string y.s, .slice cb y.l.length cpb] (0, 0) _ (uh K4) Tryd.underlying43 rfl (by kernel_rfl) ?_))
 generalize w3.alloc (.cells #[.int .i64 y.k, .int .i64 y.n, .string y.s, .slice cb y.l.length cpb] 43) = w4 at *
 clear z0 y0 y1 u0 u1
 refine (uh CL).mono ?_
 rintro r w5 ⟨c5, cp5, rfl, hx5, hb5⟩
 have X5 := hide ((uh X4).later hb5)
 have A5 := hide hx5
 clear hx5 hb5 X4 A4 B4 G4 K4 CL
 generalize sumX y x.n = z at *
 go_wp2_with (refine wpList_store_row rfl 43 _ _ rfl (w.heap.size + 1) #[.int .i64 z.k, .int .i64 z.n, .string z.s, .slice c5 z.l.length cp5] rfl rfl 43 _ ((uh X5).res) szE rfl (ex_one _ _ _ _ _ _) ?_)
 refine bodyPost_ret (results_cell_row (P := Tryd.prog) rfl _ _ (w.heap.size + 1) 43 #[.int .i64 z.k, .int .i64 z.n, .string z.s, .slice c5 z.l.length cp5] (0, 0) _ rfl (setRow_heap _ _ _ _ _ _ ((uh X5).res)) Tryd.underlying43 rfl szE) rfl ?_
 rw [← uh HX]
 exact (uh X5).end (uh A5) _
theorem foldS_add2 {d : Nat} (k : Int) (hk : 5 ≤ k ∧ k ≤ 10) (a b : Ex) (iha : FoR a) (ihb : FoR b) (oa : okF (d + 1) false (foldX a) = true) (ob : okF (d + 1) false (foldX b) = true) (f0 : ((foldX a).k == 1) = false) (f1 : ((foldX b).k == 1) = true) (g6 : (k == 6) = false) (g5 : (k == 5) = true) : FoR ⟨k, 0, ⟨#[]⟩, [a, b]⟩ := by
 intro bb cap w hr
 rw [fold_two]
 obtain ⟨p, off, rfl, hpl, hc⟩ := hr.at (by simp)
 obtain ⟨c0, c1, c2, q0, qp0, c3, r0⟩ := hc 0 (by simp)
 obtain ⟨e0, e1, e2, q1, qp1, e3, r1⟩ := hc 1 (by simp)
 have xa : xAt (Ex.mk k 0 ⟨#[]⟩ [a, b]).l 0 = a := rfl
 have xb : xAt (Ex.mk k 0 ⟨#[]⟩ [a, b]).l 1 = b := rfl
 rw [xa] at c0 c1 c2 c3 r0
 rw [xb] at e0 e1 e2 e3 r1
 simp only [Nat.zero_mul, Nat.add_zero, Nat.one_mul] at c0 c1 c2 c3 e0 e1 e2 e3
 have X0 := hide (Bx.new w #[.int .i64 k, .int .i64 0, .string ⟨#[]⟩, .slice (some ⟨p, off, none⟩) 2 cap])
 have IA := hide (iha q0 qp0 _ (RdX.later r0 (uh X0).bel))
 have IB := hide (fun wr (h : Below w.heap.size w wr) => ihb q1 qp1 wr (RdX.later r1 h))
 have d0 := ((uh X0).bel.cell (p := ⟨p, off, none⟩) hpl).trans c0
 have d1 := ((uh X0).bel.cell (p := ⟨p, off + 1, none⟩) hpl).trans c1
 have d2 := ((uh X0).bel.cell (p := ⟨p, off + 2, none⟩) hpl).trans c2
 have d3 := ((uh X0).bel.cell (p := ⟨p, off + 3, none⟩) hpl).trans c3
 have E0' := hide (fun wr (h : Below w.heap.size w wr) => (h.cell (p := ⟨p, off + 4, none⟩) hpl).trans e0)
 have E1' := hide (fun wr (h : Below w.heap.size w wr) => (h.cell (p := ⟨p, off + 4 + 1, none⟩) hpl).trans e1)
 have E2' := hide (fun wr (h : Below w.heap.size w wr) => (h.cell (p := ⟨p, off + 4 + 2, none⟩) hpl).trans e2)
 have E3' := hide (fun wr (h : Below w.heap.size w wr) => (h.cell (p := ⟨p, off + 4 + 3, none⟩) hpl).trans e3)
 have g4 : (k == 4) = false := beq_eq_false_iff_ne.2 (by omega)
 have OA := hide oa
 have OB := hide ob
 have ia : 0 ≤ (foldX a).n ∧ (foldX a).n ≤ 65535 ∨ (foldX a).k ≠ 1 := by
  by_cases h : (foldX a).k = 1
  · obtain ⟨m, hm, e⟩ := ok_k1 oa h; rw [e]; exact .inl hm
  · exact .inr h
 have ib : 0 ≤ (foldX b).n ∧ (foldX b).n ≤ 65535 ∨ (foldX b).k ≠ 1 := by
  by_cases h : (foldX b).k = 1
  · obtain ⟨m, hm, e⟩ := ok_k1 ob h; rw [e]; exact .inl hm
  · exact .inr h
 have EQ := hide (show foldN k (foldX a) (foldX b) = sumX (foldX a) (foldX b).n by unfold foldN mixX; rw [if_neg (fun h => by have := beq_eq_false_iff_ne.1 f0; exact this h.1), if_neg (beq_eq_false_iff_ne.1 g6), if_neg (fun h => beq_eq_false_iff_ne.1 f0 h.2), if_pos ⟨beq_iff_eq.1 g5, beq_iff_eq.1 f1⟩])
 rw [uh EQ]
 generalize hX : GiR _ (Up w) w = X
 have HX := hide hX
 unfold GiR Ex.cs at IA IB
 show Calls Tryd.prog 42 #[.agg #[.int .i64 k, .int .i64 0, .string ⟨#[]⟩, .slice (some ⟨p, off, none⟩) 2 cap]] w X
 generalize (foldX a) = x at *
 generalize (foldX b) = y at *
 clear hX hr hc c0 c1 c2 c3 e0 e1 e2 e3 r0 r1 iha ihb EQ xa xb oa ob
 go_enter Tryd.func42, Tryd.ntmps42
 go_wp2_with fail
 generalize (w.alloc (.cells #[.int .i64 k, .int .i64 0, .string ⟨#[]⟩, .slice (some ⟨p, off, none⟩) 2 cap] 43)).alloc (.cells #[.int .i64 0, .int .i64 0, .string ⟨#[]⟩, .slice none 0 0] 43) = W at *
 clear d0 d1 d2 d3
 refine (uh IA).mono ?_
 rintro r w1 ⟨ca, cpa, rfl, hx, hb1⟩
 have hb2 := below_new w1 (.cells #[.int .i64 x.k, .int .i64 x.n, .string x.s, .slice ca x.l.length cpa] 43)
 have hb12 := hb1.trans (hb2.mono hb1.size)
 have X2 := hide ((uh X0).later hb12)
 have hzW := (uh X0).lt
 have A2 := hide (hx.low.later hb2)
 have G2 := hide (show (w1.alloc (.cells #[.int .i64 x.k, .int .i64 x.n, .string x.s, .slice ca x.l.length cpa] 43)).heap[w1.heap.size]? = some (.cells #[.int .i64 x.k, .int .i64 x.n, .string x.s, .slice ca x.l.length cpa] 43 (0, 0)) from Array.getElem?_push_size)
 have z0 := Lib.cell_of_heap (uh X2).box 0
 have z3 := Lib.cell_of_heap (uh X2).box 3
 have d0 := uh E0' _ (uh X2).bel
 have d1 := uh E1' _ (uh X2).bel
 have d2 := uh E2' _ (uh X2).bel
 have d3 := uh E3' _ (uh X2).bel
 have IB2 := hide (uh IB _ (uh X2).bel)
 have S1 := hide hb1.size
 have hz12 : w1.heap.size < (w1.alloc (.cells #[.int .i64 x.k, .int .i64 x.n, .string x.s, .slice ca x.l.length cpa] 43)).heap.size := by simp
 have HZ2 := hide hz12
 clear hx hb1 hb2 hb12 X0 IA IB E0' E1' E2' E3' hz12
 go_wp2_with fail
 generalize w1.alloc (.cells #[.int .i64 x.k, .int .i64 x.n, .string x.s, .slice ca x.l.length cpa] 43) = w2 at *
 clear d0 d1 d2 d3 z0 z3
 refine (uh IB2).mono ?_
 rintro r w3 ⟨cb, cpb, rfl, hy, hb3⟩
 have hb4 := below_new w3 (.cells #[.int .i64 y.k, .int .i64 y.n, .string y.s, .slice cb y.l.length cpb] 43)
 have hb34 := hb3.trans (hb4.mono hb3.size)
 have X4 := hide ((uh X2).later hb34)
 have A4 := hide ((uh A2).later hb34)
 have B4 := hide (hy.later hb4)
 have G4 := hide (row_keep (uh G2) hb34)
 have K4 := hide (show (w3.alloc (.cells #[.int .i64 y.k, .int .i64 y.n, .string y.s, .slice cb y.l.length cpb] 43)).heap[w3.heap.size]? = some (.cells #[.int .i64 y.k, .int .i64 y.n, .string y.s, .slice cb y.l.length cpb] 43 (0, 0)) from Array.getElem?_push_size)
 have z0 := Lib.cell_of_heap (uh X4).box 0
 have y0 := Lib.cell_of_heap (uh G4) 0
 have y1 := Lib.cell_of_heap (uh G4) 1
 have u0 := Lib.cell_of_heap (uh K4) 0
 have u1 := Lib.cell_of_heap (uh K4) 1
 have DJ := hide (show ∀ b, (Up W b ∧ b < w1.heap.size) → ¬ Up w2 b from fun b h k => by have := uh HZ2; have h2 : w2.heap.size ≤ b := k; omega)
 have PR := hide (show ∀ b, (Up W b ∧ b < w1.heap.size) → Ow w (Up w) b from fun b h => up_ow (Nat.le_trans hzW h.1))
 have QR := hide (show ∀ b, Up w2 b → Ow w (Up w) b from fun b h => up_ow (Nat.le_trans (uh X2).lt h))
 have HR := hide (show ∀ b, (w3.alloc (.cells #[.int .i64 y.k, .int .i64 y.n, .string y.s, .slice cb y.l.length cpb] 43)).heap.size ≤ b → Ow w (Up w) b from fun b h => up_ow (Nat.le_trans (uh X4).lt h))
 clear hy hb3 hb4 hb34 X2 A2 G2 IB2
 have CL := hide (sumS_any x (uh OA) ca cpa y.n (by have := ib.resolve_right (fun h => h (beq_iff_eq.1 f1)); omega) (Ow w (Up w)) (w3.alloc (.cells #[.int .i64 y.k, .int .i64 y.n, .string y.s, .slice cb y.l.length cpb] 43)) ((uh A4).mono (uh PR)) (uh HR))
 unfold GiR Ex.cs at CL
 go_wp2_with (first | (refine wpList_load_row rfl 43 _ rfl w1.heap.size rfl 43 #[.int .i64 x.k, .int .i64 x.n, .string x.s, .slice ca x.l.length cpa] (0, 0) _ (uh G4) Tryd.underlying43 rfl (by kernel_rfl) ?_))
 generalize w3.alloc (.cells #[.int .i64 y.k, .int .i64 y.n, .string y.s, .slice cb y.l.length cpb] 43) = w4 at *
 clear z0 y0 y1 u0 u1
 refine (uh CL).mono ?_
 rintro r w5 ⟨c5, cp5, rfl, hx5, hb5⟩
 have X5 := hide ((uh X4).later hb5)
 have A5 := hide hx5
 clear hx5 hb5 X4 A4 B4 G4 K4 CL
 generalize sumX x y.n = z at *
 go_wp2_with (refine wpList_store_row rfl 43 _ _ rfl (w.heap.size + 1) #[.int .i64 z.k, .int .i64 z.n, .string z.s, .slice c5 z.l.length cp5] rfl rfl 43 _ ((uh X5).res) szE rfl (ex_one _ _ _ _ _ _) ?_)
 refine bodyPost_ret (results_cell_row (P := Tryd.prog) rfl _ _ (w.heap.size + 1) 43 #[.int .i64 z.k, .int .i64 z.n, .string z.s, .slice c5 z.l.length cp5] (0, 0) _ rfl (setRow_heap _ _ _ _ _ _ ((uh X5).res)) Tryd.underlying43 rfl szE) rfl ?_
 rw [← uh HX]
 exact (uh X5).end (uh A5) _
theorem foldS_add0 {d : Nat} (k : Int) (hk : 5 ≤ k ∧ k ≤ 10) (a b : Ex) (iha : FoR a) (ihb : FoR b) (oa : okF (d + 1) false (foldX a) = true) (ob : okF (d + 1) false (foldX b) = true) (f0 : ((foldX a).k == 1) = false) (f1 : ((foldX b).k == 1) = false) (g6 : (k == 6) = false) (g5 : (k == 5) = true) : FoR ⟨k, 0, ⟨#[]⟩, [a, b]⟩ := by
 intro bb cap w hr
 rw [fold_two]
 obtain ⟨p, off, rfl, hpl, hc⟩ := hr.at (by simp)
 obtain ⟨c0, c1, c2, q0, qp0, c3, r0⟩ := hc 0 (by simp)
 obtain ⟨e0, e1, e2, q1, qp1, e3, r1⟩ := hc 1 (by simp)
 have xa : xAt (Ex.mk k 0 ⟨#[]⟩ [a, b]).l 0 = a := rfl
 have xb : xAt (Ex.mk k 0 ⟨#[]⟩ [a, b]).l 1 = b := rfl
 rw [xa] at c0 c1 c2 c3 r0
 rw [xb] at e0 e1 e2 e3 r1
 simp only [Nat.zero_mul, Nat.add_zero, Nat.one_mul] at c0 c1 c2 c3 e0 e1 e2 e3
 have X0 := hide (Bx.new w #[.int .i64 k, .int .i64 0, .string ⟨#[]⟩, .slice (some ⟨p, off, none⟩) 2 cap])
 have IA := hide (iha q0 qp0 _ (RdX.later r0 (uh X0).bel))
 have IB := hide (fun wr (h : Below w.heap.size w wr) => ihb q1 qp1 wr (RdX.later r1 h))
 have d0 := ((uh X0).bel.cell (p := ⟨p, off, none⟩) hpl).trans c0
 have d1 := ((uh X0).bel.cell (p := ⟨p, off + 1, none⟩) hpl).trans c1
 have d2 := ((uh X0).bel.cell (p := ⟨p, off + 2, none⟩) hpl).trans c2
 have d3 := ((uh X0).bel.cell (p := ⟨p, off + 3, none⟩) hpl).trans c3
 have E0' := hide (fun wr (h : Below w.heap.size w wr) => (h.cell (p := ⟨p, off + 4, none⟩) hpl).trans e0)
 have E1' := hide (fun wr (h : Below w.heap.size w wr) => (h.cell (p := ⟨p, off + 4 + 1, none⟩) hpl).trans e1)
 have E2' := hide (fun wr (h : Below w.heap.size w wr) => (h.cell (p := ⟨p, off + 4 + 2, none⟩) hpl).trans e2)
 have E3' := hide (fun wr (h : Below w.heap.size w wr) => (h.cell (p := ⟨p, off + 4 + 3, none⟩) hpl).trans e3)
 have g4 : (k == 4) = false := beq_eq_false_iff_ne.2 (by omega)
 have OA := hide oa
 have OB := hide ob
 have ia : 0 ≤ (foldX a).n ∧ (foldX a).n ≤ 65535 ∨ (foldX a).k ≠ 1 := by
  by_cases h : (foldX a).k = 1
  · obtain ⟨m, hm, e⟩ := ok_k1 oa h; rw [e]; exact .inl hm
  · exact .inr h
 have ib : 0 ≤ (foldX b).n ∧ (foldX b).n ≤ 65535 ∨ (foldX b).k ≠ 1 := by
  by_cases h : (foldX b).k = 1
  · obtain ⟨m, hm, e⟩ := ok_k1 ob h; rw [e]; exact .inl hm
  · exact .inr h
 have EQ := hide (show foldN k (foldX a) (foldX b) = ⟨k, 0, ⟨#[]⟩, [(foldX a), (foldX b)]⟩ by unfold foldN mixX; rw [if_neg (fun h => by have := beq_eq_false_iff_ne.1 f0; exact this h.1), if_neg (beq_eq_false_iff_ne.1 g6), if_neg (fun h => beq_eq_false_iff_ne.1 f0 h.2), if_neg (fun h => beq_eq_false_iff_ne.1 f1 h.2)]; rfl)
 rw [uh EQ]
 generalize hX : GiR _ (Up w) w = X
 have HX := hide hX
 unfold GiR Ex.cs at IA IB
 show Calls Tryd.prog 42 #[.agg #[.int .i64 k, .int .i64 0, .string ⟨#[]⟩, .slice (some ⟨p, off, none⟩) 2 cap]] w X
 generalize (foldX a) = x at *
 generalize (foldX b) = y at *
 clear hX hr hc c0 c1 c2 c3 e0 e1 e2 e3 r0 r1 iha ihb EQ xa xb oa ob
 go_enter Tryd.func42, Tryd.ntmps42
 go_wp2_with fail
 generalize (w.alloc (.cells #[.int .i64 k, .int .i64 0, .string ⟨#[]⟩, .slice (some ⟨p, off, none⟩) 2 cap] 43)).alloc (.cells #[.int .i64 0, .int .i64 0, .string ⟨#[]⟩, .slice none 0 0] 43) = W at *
 clear d0 d1 d2 d3
 refine (uh IA).mono ?_
 rintro r w1 ⟨ca, cpa, rfl, hx, hb1⟩
 have hb2 := below_new w1 (.cells #[.int .i64 x.k, .int .i64 x.n, .string x.s, .slice ca x.l.length cpa] 43)
 have hb12 := hb1.trans (hb2.mono hb1.size)
 have X2 := hide ((uh X0).later hb12)
 have hzW := (uh X0).lt
 have A2 := hide (hx.low.later hb2)
 have G2 := hide (show (w1.alloc (.cells #[.int .i64 x.k, .int .i64 x.n, .string x.s, .slice ca x.l.length cpa] 43)).heap[w1.heap.size]? = some (.cells #[.int .i64 x.k, .int .i64 x.n, .string x.s, .slice ca x.l.length cpa] 43 (0, 0)) from Array.getElem?_push_size)
 have z0 := Lib.cell_of_heap (uh X2).box 0
 have z3 := Lib.cell_of_heap (uh X2).box 3
 have d0 := uh E0' _ (uh X2).bel
 have d1 := uh E1' _ (uh X2).bel
 have d2 := uh E2' _ (uh X2).bel
 have d3 := uh E3' _ (uh X2).bel
 have IB2 := hide (uh IB _ (uh X2).bel)
 have S1 := hide hb1.size
 have hz12 : w1.heap.size < (w1.alloc (.cells #[.int .i64 x.k, .int .i64 x.n, .string x.s, .slice ca x.l.length cpa] 43)).heap.size := by simp
 have HZ2 := hide hz12
 clear hx hb1 hb2 hb12 X0 IA IB E0' E1' E2' E3' hz12
 go_wp2_with fail
 generalize w1.alloc (.cells #[.int .i64 x.k, .int .i64 x.n, .string x.s, .slice ca x.l.length cpa] 43) = w2 at *
 clear d0 d1 d2 d3 z0 z3
 refine (uh IB2).mono ?_
 rintro r w3 ⟨cb, cpb, rfl, hy, hb3⟩
 have hb4 := below_new w3 (.cells #[.int .i64 y.k, .int .i64 y.n, .string y.s, .slice cb y.l.length cpb] 43)
 have hb34 := hb3.trans (hb4.mono hb3.size)
 have X4 := hide ((uh X2).later hb34)
 have A4 := hide ((uh A2).later hb34)
 have B4 := hide (hy.later hb4)
 have G4 := hide (row_keep (uh G2) hb34)
 have K4 := hide (show (w3.alloc (.cells #[.int .i64 y.k, .int .i64 y.n, .string y.s, .slice cb y.l.length cpb] 43)).heap[w3.heap.size]? = some (.cells #[.int .i64 y.k, .int .i64 y.n, .string y.s, .slice cb y.l.length cpb] 43 (0, 0)) from Array.getElem?_push_size)
 have z0 := Lib.cell_of_heap (uh X4).box 0
 have y0 := Lib.cell_of_heap (uh G4) 0
 have y1 := Lib.cell_of_heap (uh G4) 1
 have u0 := Lib.cell_of_heap (uh K4) 0
 have u1 := Lib.cell_of_heap (uh K4) 1
 have DJ := hide (show ∀ b, (Up W b ∧ b < w1.heap.size) → ¬ Up w2 b from fun b h k => by have := uh HZ2; have h2 : w2.heap.size ≤ b := k; omega)
 have PR := hide (show ∀ b, (Up W b ∧ b < w1.heap.size) → Ow w (Up w) b from fun b h => up_ow (Nat.le_trans hzW h.1))
 have QR := hide (show ∀ b, Up w2 b → Ow w (Up w) b from fun b h => up_ow (Nat.le_trans (uh X2).lt h))
 have HR := hide (show ∀ b, (w3.alloc (.cells #[.int .i64 y.k, .int .i64 y.n, .string y.s, .slice cb y.l.length cpb] 43)).heap.size ≤ b → Ow w (Up w) b from fun b h => up_ow (Nat.le_trans (uh X4).lt h))
 clear hy hb3 hb4 hb34 X2 A2 G2 IB2
 have hb5 := below_new (w3.alloc (.cells #[.int .i64 y.k, .int .i64 y.n, .string y.s, .slice cb y.l.length cpb] 43)) (.cells #[.int .i64 x.k, .int .i64 x.n, .string x.s, .slice ca x.l.length cpa, .int .i64 y.k, .int .i64 y.n, .string y.s, .slice cb y.l.length cpb] 43)
 have X5 := hide ((uh X4).later hb5)
 have hz5 : (w3.alloc (.cells #[.int .i64 y.k, .int .i64 y.n, .string y.s, .slice cb y.l.length cpb] 43)).heap.size = w3.heap.size + 1 := by simp
 have N5' := (show PX ((w3.alloc (.cells #[.int .i64 y.k, .int .i64 y.n, .string y.s, .slice cb y.l.length cpb] 43)).alloc (.cells #[.int .i64 x.k, .int .i64 x.n, .string x.s, .slice ca x.l.length cpa, .int .i64 y.k, .int .i64 y.n, .string y.s, .slice cb y.l.length cpb] 43)) (Ow w (Up w)) ⟨k, 0, ⟨#[]⟩, [x, y]⟩ (some ⟨(w3.alloc (.cells #[.int .i64 y.k, .int .i64 y.n, .string y.s, .slice cb y.l.length cpb] 43)).heap.size, 0, none⟩) from (uh A4).two (uh B4) (uh DJ) (uh PR) (uh QR) (uh HR _ (Nat.le_refl _)) k 0 ⟨#[]⟩ 43)
 rw [hz5] at N5'
 have N5 := hide N5'
 clear hb5 N5' hz5
 go_wp2_with (first | (refine wpList_load_row rfl 43 _ rfl w1.heap.size rfl 43 #[.int .i64 x.k, .int .i64 x.n, .string x.s, .slice ca x.l.length cpa] (0, 0) _ (uh G4) Tryd.underlying43 rfl (by kernel_rfl) ?_) | (refine wpList_load_row rfl 43 _ rfl w3.heap.size rfl 43 #[.int .i64 y.k, .int .i64 y.n, .string y.s, .slice cb y.l.length cpb] (0, 0) _ (uh K4) Tryd.underlying43 rfl (by kernel_rfl) ?_) | (refine wpList_store_row rfl 43 _ _ rfl (w.heap.size + 1) #[.int .i64 k, .int .i64 0, .string ⟨#[]⟩, .slice (some ⟨w3.heap.size + 1, 0, none⟩) 2 2] rfl rfl 43 _ ((uh X5).res) szE rfl (ex_one _ _ _ _ _ _) ?_))
 refine bodyPost_ret (results_cell_row (P := Tryd.prog) rfl _ _ (w.heap.size + 1) 43 #[.int .i64 k, .int .i64 0, .string ⟨#[]⟩, .slice (some ⟨w3.heap.size + 1, 0, none⟩) 2 2] (0, 0) _ rfl (setRow_heap _ _ _ _ _ _ ((uh X5).res)) Tryd.underlying43 rfl szE) rfl ?_
 rw [← uh HX]
 exact Bx.end (x := ⟨k, 0, ⟨#[]⟩, [x, y]⟩) (uh X5) (uh N5) _
theorem foldS_num {d : Nat} (k : Int) (hk : 5 ≤ k ∧ k ≤ 10) (a b : Ex) (iha : FoR a) (ihb : FoR b) (oa : okF (d + 1) false (foldX a) = true) (ob : okF (d + 1) false (foldX b) = true) (f0 : ((foldX a).k == 1) = true) (f1 : ((foldX b).k == 1) = true) (m : Int) (ht : two11 k (foldX a).n (foldX b).n = some m) : FoR ⟨k, 0, ⟨#[]⟩, [a, b]⟩ := by
 intro bb cap w hr
 rw [fold_two]
 obtain ⟨p, off, rfl, hpl, hc⟩ := hr.at (by simp)
 obtain ⟨c0, c1, c2, q0, qp0, c3, r0⟩ := hc 0 (by simp)
 obtain ⟨e0, e1, e2, q1, qp1, e3, r1⟩ := hc 1 (by simp)
 have xa : xAt (Ex.mk k 0 ⟨#[]⟩ [a, b]).l 0 = a := rfl
 have xb : xAt (Ex.mk k 0 ⟨#[]⟩ [a, b]).l 1 = b := rfl
 rw [xa] at c0 c1 c2 c3 r0
 rw [xb] at e0 e1 e2 e3 r1
 simp only [Nat.zero_mul, Nat.add_zero, Nat.one_mul] at c0 c1 c2 c3 e0 e1 e2 e3
 have X0 := hide (Bx.new w #[.int .i64 k, .int .i64 0, .string ⟨#[]⟩, .slice (some ⟨p, off, none⟩) 2 cap])
 have IA := hide (iha q0 qp0 _ (RdX.later r0 (uh X0).bel))
 have IB := hide (fun wr (h : Below w.heap.size w wr) => ihb q1 qp1 wr (RdX.later r1 h))
 have d0 := ((uh X0).bel.cell (p := ⟨p, off, none⟩) hpl).trans c0
 have d1 := ((uh X0).bel.cell (p := ⟨p, off + 1, none⟩) hpl).trans c1
 have d2 := ((uh X0).bel.cell (p := ⟨p, off + 2, none⟩) hpl).trans c2
 have d3 := ((uh X0).bel.cell (p := ⟨p, off + 3, none⟩) hpl).trans c3
 have E0' := hide (fun wr (h : Below w.heap.size w wr) => (h.cell (p := ⟨p, off + 4, none⟩) hpl).trans e0)
 have E1' := hide (fun wr (h : Below w.heap.size w wr) => (h.cell (p := ⟨p, off + 4 + 1, none⟩) hpl).trans e1)
 have E2' := hide (fun wr (h : Below w.heap.size w wr) => (h.cell (p := ⟨p, off + 4 + 2, none⟩) hpl).trans e2)
 have E3' := hide (fun wr (h : Below w.heap.size w wr) => (h.cell (p := ⟨p, off + 4 + 3, none⟩) hpl).trans e3)
 have g4 : (k == 4) = false := beq_eq_false_iff_ne.2 (by omega)
 have OA := hide oa
 have OB := hide ob
 have ia : 0 ≤ (foldX a).n ∧ (foldX a).n ≤ 65535 ∨ (foldX a).k ≠ 1 := by
  by_cases h : (foldX a).k = 1
  · obtain ⟨m, hm, e⟩ := ok_k1 oa h; rw [e]; exact .inl hm
  · exact .inr h
 have ib : 0 ≤ (foldX b).n ∧ (foldX b).n ≤ 65535 ∨ (foldX b).k ≠ 1 := by
  by_cases h : (foldX b).k = 1
  · obtain ⟨m, hm, e⟩ := ok_k1 ob h; rw [e]; exact .inl hm
  · exact .inr h
 have EQ := hide (show foldN k (foldX a) (foldX b) = numX m by unfold foldN; rw [if_pos ⟨beq_iff_eq.1 f0, beq_iff_eq.1 f1⟩, ht])
 rw [uh EQ]
 generalize hX : GiR _ (Up w) w = X
 have HX := hide hX
 unfold GiR Ex.cs at IA IB
 show Calls Tryd.prog 42 #[.agg #[.int .i64 k, .int .i64 0, .string ⟨#[]⟩, .slice (some ⟨p, off, none⟩) 2 cap]] w X
 generalize (foldX a) = x at *
 generalize (foldX b) = y at *
 clear hX hr hc c0 c1 c2 c3 e0 e1 e2 e3 r0 r1 iha ihb EQ xa xb oa ob
 go_enter Tryd.func42, Tryd.ntmps42
 go_wp2_with fail
 generalize (w.alloc (.cells #[.int .i64 k, .int .i64 0, .string ⟨#[]⟩, .slice (some ⟨p, off, none⟩) 2 cap] 43)).alloc (.cells #[.int .i64 0, .int .i64 0, .string ⟨#[]⟩, .slice none 0 0] 43) = W at *
 clear d0 d1 d2 d3
 refine (uh IA).mono ?_
 rintro r w1 ⟨ca, cpa, rfl, hx, hb1⟩
 have hb2 := below_new w1 (.cells #[.int .i64 x.k, .int .i64 x.n, .string x.s, .slice ca x.l.length cpa] 43)
 have hb12 := hb1.trans (hb2.mono hb1.size)
 have X2 := hide ((uh X0).later hb12)
 have hzW := (uh X0).lt
 have A2 := hide (hx.low.later hb2)
 have G2 := hide (show (w1.alloc (.cells #[.int .i64 x.k, .int .i64 x.n, .string x.s, .slice ca x.l.length cpa] 43)).heap[w1.heap.size]? = some (.cells #[.int .i64 x.k, .int .i64 x.n, .string x.s, .slice ca x.l.length cpa] 43 (0, 0)) from Array.getElem?_push_size)
 have z0 := Lib.cell_of_heap (uh X2).box 0
 have z3 := Lib.cell_of_heap (uh X2).box 3
 have d0 := uh E0' _ (uh X2).bel
 have d1 := uh E1' _ (uh X2).bel
 have d2 := uh E2' _ (uh X2).bel
 have d3 := uh E3' _ (uh X2).bel
 have IB2 := hide (uh IB _ (uh X2).bel)
 have S1 := hide hb1.size
 have hz12 : w1.heap.size < (w1.alloc (.cells #[.int .i64 x.k, .int .i64 x.n, .string x.s, .slice ca x.l.length cpa] 43)).heap.size := by simp
 have HZ2 := hide hz12
 clear hx hb1 hb2 hb12 X0 IA IB E0' E1' E2' E3' hz12
 go_wp2_with fail
 generalize w1.alloc (.cells #[.int .i64 x.k, .int .i64 x.n, .string x.s, .slice ca x.l.length cpa] 43) = w2 at *
 clear d0 d1 d2 d3 z0 z3
 refine (uh IB2).mono ?_
 rintro r w3 ⟨cb, cpb, rfl, hy, hb3⟩
 have hb4 := below_new w3 (.cells #[.int .i64 y.k, .int .i64 y.n, .string y.s, .slice cb y.l.length cpb] 43)
 have hb34 := hb3.trans (hb4.mono hb3.size)
 have X4 := hide ((uh X2).later hb34)
 have A4 := hide ((uh A2).later hb34)
 have B4 := hide (hy.later hb4)
 have G4 := hide (row_keep (uh G2) hb34)
 have K4 := hide (show (w3.alloc (.cells #[.int .i64 y.k, .int .i64 y.n, .string y.s, .slice cb y.l.length cpb] 43)).heap[w3.heap.size]? = some (.cells #[.int .i64 y.k, .int .i64 y.n, .string y.s, .slice cb y.l.length cpb] 43 (0, 0)) from Array.getElem?_push_size)
 have z0 := Lib.cell_of_heap (uh X4).box 0
 have y0 := Lib.cell_of_heap (uh G4) 0
 have y1 := Lib.cell_of_heap (uh G4) 1
 have u0 := Lib.cell_of_heap (uh K4) 0
 have u1 := Lib.cell_of_heap (uh K4) 1
 have DJ := hide (show ∀ b, (Up W b ∧ b < w1.heap.size) → ¬ Up w2 b from fun b h k => by have := uh HZ2; have h2 : w2.heap.size ≤ b := k; omega)
 have PR := hide (show ∀ b, (Up W b ∧ b < w1.heap.size) → Ow w (Up w) b from fun b h => up_ow (Nat.le_trans hzW h.1))
 have QR := hide (show ∀ b, Up w2 b → Ow w (Up w) b from fun b h => up_ow (Nat.le_trans (uh X2).lt h))
 have HR := hide (show ∀ b, (w3.alloc (.cells #[.int .i64 y.k, .int .i64 y.n, .string y.s, .slice cb y.l.length cpb] 43)).heap.size ≤ b → Ow w (Up w) b from fun b h => up_ow (Nat.le_trans (uh X4).lt h))
 clear hy hb3 hb4 hb34 X2 A2 G2 IB2
 have TW := hide (twoS_any k x.n y.n hk (ia.resolve_right (fun h => h (beq_iff_eq.1 f0))) (ib.resolve_right (fun h => h (beq_iff_eq.1 f1))) (w3.alloc (.cells #[.int .i64 y.k, .int .i64 y.n, .string y.s, .slice cb y.l.length cpb] 43)))
 unfold TwoR at TW
 rw [ht] at TW
 simp only [Option.getD_some, Option.isSome_some] at TW
 go_wp2_with (first | (go_at_call 56; refine (uh TW).mono ?_; rintro r w' ⟨hw', rfl⟩; rw [hw']; clear hw' w'))
 generalize w3.alloc (.cells #[.int .i64 y.k, .int .i64 y.n, .string y.s, .slice cb y.l.length cpb] 43) = w4 at *
 clear z0 y0 y1 u0 u1
 refine (numD m w4).mono ?_
 rintro r w5 ⟨rfl, hb5⟩
 have X5 := hide ((uh X4).later hb5)
 have A5 := hide (PX.leaf w5 (Ow w (Up w)) 1 (m % 65536) (⟨#[]⟩ : ByteArray) none)
 clear hb5 X4 A4 B4 G4 K4 TW
 go_wp2_with (refine wpList_store_row rfl 43 _ _ rfl (w.heap.size + 1) #[.int .i64 1, .int .i64 (m % 65536), .string ⟨#[]⟩, .slice none 0 0] rfl rfl 43 _ ((uh X5).res) szE rfl (ex_one _ _ _ _ _ _) ?_)
 refine bodyPost_ret (results_cell_row (P := Tryd.prog) rfl _ _ (w.heap.size + 1) 43 #[.int .i64 1, .int .i64 (m % 65536), .string ⟨#[]⟩, .slice none 0 0] (0, 0) _ rfl (setRow_heap _ _ _ _ _ _ ((uh X5).res)) Tryd.underlying43 rfl szE) rfl ?_
 rw [← uh HX]
 exact Bx.end (x := numX m) (uh X5) (uh A5) _
theorem foldS_none {d : Nat} (k : Int) (hk : 5 ≤ k ∧ k ≤ 10) (a b : Ex) (iha : FoR a) (ihb : FoR b) (oa : okF (d + 1) false (foldX a) = true) (ob : okF (d + 1) false (foldX b) = true) (f0 : ((foldX a).k == 1) = true) (f1 : ((foldX b).k == 1) = true) (g6 : (k == 6) = false) (g5 : (k == 5) = false) (ht : two11 k (foldX a).n (foldX b).n = none) : FoR ⟨k, 0, ⟨#[]⟩, [a, b]⟩ := by
 intro bb cap w hr
 rw [fold_two]
 obtain ⟨p, off, rfl, hpl, hc⟩ := hr.at (by simp)
 obtain ⟨c0, c1, c2, q0, qp0, c3, r0⟩ := hc 0 (by simp)
 obtain ⟨e0, e1, e2, q1, qp1, e3, r1⟩ := hc 1 (by simp)
 have xa : xAt (Ex.mk k 0 ⟨#[]⟩ [a, b]).l 0 = a := rfl
 have xb : xAt (Ex.mk k 0 ⟨#[]⟩ [a, b]).l 1 = b := rfl
 rw [xa] at c0 c1 c2 c3 r0
 rw [xb] at e0 e1 e2 e3 r1
 simp only [Nat.zero_mul, Nat.add_zero, Nat.one_mul] at c0 c1 c2 c3 e0 e1 e2 e3
 have X0 := hide (Bx.new w #[.int .i64 k, .int .i64 0, .string ⟨#[]⟩, .slice (some ⟨p, off, none⟩) 2 cap])
 have IA := hide (iha q0 qp0 _ (RdX.later r0 (uh X0).bel))
 have IB := hide (fun wr (h : Below w.heap.size w wr) => ihb q1 qp1 wr (RdX.later r1 h))
 have d0 := ((uh X0).bel.cell (p := ⟨p, off, none⟩) hpl).trans c0
 have d1 := ((uh X0).bel.cell (p := ⟨p, off + 1, none⟩) hpl).trans c1
 have d2 := ((uh X0).bel.cell (p := ⟨p, off + 2, none⟩) hpl).trans c2
 have d3 := ((uh X0).bel.cell (p := ⟨p, off + 3, none⟩) hpl).trans c3
 have E0' := hide (fun wr (h : Below w.heap.size w wr) => (h.cell (p := ⟨p, off + 4, none⟩) hpl).trans e0)
 have E1' := hide (fun wr (h : Below w.heap.size w wr) => (h.cell (p := ⟨p, off + 4 + 1, none⟩) hpl).trans e1)
 have E2' := hide (fun wr (h : Below w.heap.size w wr) => (h.cell (p := ⟨p, off + 4 + 2, none⟩) hpl).trans e2)
 have E3' := hide (fun wr (h : Below w.heap.size w wr) => (h.cell (p := ⟨p, off + 4 + 3, none⟩) hpl).trans e3)
 have g4 : (k == 4) = false := beq_eq_false_iff_ne.2 (by omega)
 have OA := hide oa
 have OB := hide ob
 have ia : 0 ≤ (foldX a).n ∧ (foldX a).n ≤ 65535 ∨ (foldX a).k ≠ 1 := by
  by_cases h : (foldX a).k = 1
  · obtain ⟨m, hm, e⟩ := ok_k1 oa h; rw [e]; exact .inl hm
  · exact .inr h
 have ib : 0 ≤ (foldX b).n ∧ (foldX b).n ≤ 65535 ∨ (foldX b).k ≠ 1 := by
  by_cases h : (foldX b).k = 1
  · obtain ⟨m, hm, e⟩ := ok_k1 ob h; rw [e]; exact .inl hm
  · exact .inr h
 have EQ := hide (show foldN k (foldX a) (foldX b) = ⟨k, 0, ⟨#[]⟩, [(foldX a), (foldX b)]⟩ by unfold foldN mixX; rw [if_pos ⟨beq_iff_eq.1 f0, beq_iff_eq.1 f1⟩, ht]; simp only []; rw [if_neg (beq_eq_false_iff_ne.1 g6), if_neg (fun h => beq_eq_false_iff_ne.1 g5 h.1), if_neg (fun h => beq_eq_false_iff_ne.1 g5 h.1)]; rfl)
 rw [uh EQ]
 generalize hX : GiR _ (Up w) w = X
 have HX := hide hX
 unfold GiR Ex.cs at IA IB
 show Calls Tryd.prog 42 #[.agg #[.int .i64 k, .int .i64 0, .string ⟨#[]⟩, .slice (some ⟨p, off, none⟩) 2 cap]] w X
 generalize (foldX a) = x at *
 generalize (foldX b) = y at *
 clear hX hr hc c0 c1 c2 c3 e0 e1 e2 e3 r0 r1 iha ihb EQ xa xb oa ob
 go_enter Tryd.func42, Tryd.ntmps42
 go_wp2_with fail
 generalize (w.alloc (.cells #[.int .i64 k, .int .i64 0, .string ⟨#[]⟩, .slice (some ⟨p, off, none⟩) 2 cap] 43)).alloc (.cells #[.int .i64 0, .int .i64 0, .string ⟨#[]⟩, .slice none 0 0] 43) = W at *
 clear d0 d1 d2 d3
 refine (uh IA).mono ?_
 rintro r w1 ⟨ca, cpa, rfl, hx, hb1⟩
 have hb2 := below_new w1 (.cells #[.int .i64 x.k, .int .i64 x.n, .string x.s, .slice ca x.l.length cpa] 43)
 have hb12 := hb1.trans (hb2.mono hb1.size)
 have X2 := hide ((uh X0).later hb12)
 have hzW := (uh X0).lt
 have A2 := hide (hx.low.later hb2)
 have G2 := hide (show (w1.alloc (.cells #[.int .i64 x.k, .int .i64 x.n, .string x.s, .slice ca x.l.length cpa] 43)).heap[w1.heap.size]? = some (.cells #[.int .i64 x.k, .int .i64 x.n, .string x.s, .slice ca x.l.length cpa] 43 (0, 0)) from Array.getElem?_push_size)
 have z0 := Lib.cell_of_heap (uh X2).box 0
 have z3 := Lib.cell_of_heap (uh X2).box 3
 have d0 := uh E0' _ (uh X2).bel
 have d1 := uh E1' _ (uh X2).bel
 have d2 := uh E2' _ (uh X2).bel
 have d3 := uh E3' _ (uh X2).bel
 have IB2 := hide (uh IB _ (uh X2).bel)
 have S1 := hide hb1.size
 have hz12 : w1.heap.size < (w1.alloc (.cells #[.int .i64 x.k, .int .i64 x.n, .string x.s, .slice ca x.l.length cpa] 43)).heap.size := by simp
 have HZ2 := hide hz12
 clear hx hb1 hb2 hb12 X0 IA IB E0' E1' E2' E3' hz12
 go_wp2_with fail
 generalize w1.alloc (.cells #[.int .i64 x.k, .int .i64 x.n, .string x.s, .slice ca x.l.length cpa] 43) = w2 at *
 clear d0 d1 d2 d3 z0 z3
 refine (uh IB2).mono ?_
 rintro r w3 ⟨cb, cpb, rfl, hy, hb3⟩
 have hb4 := below_new w3 (.cells #[.int .i64 y.k, .int .i64 y.n, .string y.s, .slice cb y.l.length cpb] 43)
 have hb34 := hb3.trans (hb4.mono hb3.size)
 have X4 := hide ((uh X2).later hb34)
 have A4 := hide ((uh A2).later hb34)
 have B4 := hide (hy.later hb4)
 have G4 := hide (row_keep (uh G2) hb34)
 have K4 := hide (show (w3.alloc (.cells #[.int .i64 y.k, .int .i64 y.n, .string y.s, .slice cb y.l.length cpb] 43)).heap[w3.heap.size]? = some (.cells #[.int .i64 y.k, .int .i64 y.n, .string y.s, .slice cb y.l.length cpb] 43 (0, 0)) from Array.getElem?_push_size)
 have z0 := Lib.cell_of_heap (uh X4).box 0
 have y0 := Lib.cell_of_heap (uh G4) 0
 have y1 := Lib.cell_of_heap (uh G4) 1
 have u0 := Lib.cell_of_heap (uh K4) 0
 have u1 := Lib.cell_of_heap (uh K4) 1
 have DJ := hide (show ∀ b, (Up W b ∧ b < w1.heap.size) → ¬ Up w2 b from fun b h k => by have := uh HZ2; have h2 : w2.heap.size ≤ b := k; omega)
 have PR := hide (show ∀ b, (Up W b ∧ b < w1.heap.size) → Ow w (Up w) b from fun b h => up_ow (Nat.le_trans hzW h.1))
 have QR := hide (show ∀ b, Up w2 b → Ow w (Up w) b from fun b h => up_ow (Nat.le_trans (uh X2).lt h))
 have HR := hide (show ∀ b, (w3.alloc (.cells #[.int .i64 y.k, .int .i64 y.n, .string y.s, .slice cb y.l.length cpb] 43)).heap.size ≤ b → Ow w (Up w) b from fun b h => up_ow (Nat.le_trans (uh X4).lt h))
 clear hy hb3 hb4 hb34 X2 A2 G2 IB2
 have TW := hide (twoS_any k x.n y.n hk (ia.resolve_right (fun h => h (beq_iff_eq.1 f0))) (ib.resolve_right (fun h => h (beq_iff_eq.1 f1))) (w3.alloc (.cells #[.int .i64 y.k, .int .i64 y.n, .string y.s, .slice cb y.l.length cpb] 43)))
 unfold TwoR at TW
 rw [ht] at TW
 simp only [Option.getD_none, Option.isSome_none] at TW
 have hb5 := below_new (w3.alloc (.cells #[.int .i64 y.k, .int .i64 y.n, .string y.s, .slice cb y.l.length cpb] 43)) (.cells #[.int .i64 x.k, .int .i64 x.n, .string x.s, .slice ca x.l.length cpa, .int .i64 y.k, .int .i64 y.n, .string y.s, .slice cb y.l.length cpb] 43)
 have X5 := hide ((uh X4).later hb5)
 have hz5 : (w3.alloc (.cells #[.int .i64 y.k, .int .i64 y.n, .string y.s, .slice cb y.l.length cpb] 43)).heap.size = w3.heap.size + 1 := by simp
 have N5' := (show PX ((w3.alloc (.cells #[.int .i64 y.k, .int .i64 y.n, .string y.s, .slice cb y.l.length cpb] 43)).alloc (.cells #[.int .i64 x.k, .int .i64 x.n, .string x.s, .slice ca x.l.length cpa, .int .i64 y.k, .int .i64 y.n, .string y.s, .slice cb y.l.length cpb] 43)) (Ow w (Up w)) ⟨k, 0, ⟨#[]⟩, [x, y]⟩ (some ⟨(w3.alloc (.cells #[.int .i64 y.k, .int .i64 y.n, .string y.s, .slice cb y.l.length cpb] 43)).heap.size, 0, none⟩) from (uh A4).two (uh B4) (uh DJ) (uh PR) (uh QR) (uh HR _ (Nat.le_refl _)) k 0 ⟨#[]⟩ 43)
 rw [hz5] at N5'
 have N5 := hide N5'
 clear hb5 N5' hz5
 go_wp2_with (first | (go_at_call 56; refine (uh TW).mono ?_; rintro r w' ⟨hw', rfl⟩; rw [hw']; clear hw' w') | (refine wpList_load_row rfl 43 _ rfl w1.heap.size rfl 43 #[.int .i64 x.k, .int .i64 x.n, .string x.s, .slice ca x.l.length cpa] (0, 0) _ (uh G4) Tryd.underlying43 rfl (by kernel_rfl) ?_) | (refine wpList_load_row rfl 43 _ rfl w3.heap.size rfl 43 #[.int .i64 y.k, .int .i64 y.n, .string y.s, .slice cb y.l.length cpb] (0, 0) _ (uh K4) Tryd.underlying43 rfl (by kernel_rfl) ?_) | (refine wpList_store_row rfl 43 _ _ rfl (w.heap.size + 1) #[.int .i64 k, .int .i64 0, .string ⟨#[]⟩, .slice (some ⟨w3.heap.size + 1, 0, none⟩) 2 2] rfl rfl 43 _ ((uh X5).res) szE rfl (ex_one _ _ _ _ _ _) ?_))
 refine bodyPost_ret (results_cell_row (P := Tryd.prog) rfl _ _ (w.heap.size + 1) 43 #[.int .i64 k, .int .i64 0, .string ⟨#[]⟩, .slice (some ⟨w3.heap.size + 1, 0, none⟩) 2 2] (0, 0) _ rfl (setRow_heap _ _ _ _ _ _ ((uh X5).res)) Tryd.underlying43 rfl szE) rfl ?_
 rw [← uh HX]
 exact Bx.end (x := ⟨k, 0, ⟨#[]⟩, [x, y]⟩) (uh X5) (uh N5) _
theorem name_szF {s : ByteArray} (h : nameB s = true) : s.size ≤ 6 := by
 unfold nameB at h
 rw [Bool.and_eq_true] at h
 obtain ⟨c, r, _, _, _, hl⟩ := form_open h.1
 rw [← size_len]
 exact hl
theorem foldS_two {d : Nat} (k : Int) (hk : 5 ≤ k ∧ k ≤ 10) (a b : Ex) (iha : FoR a) (ihb : FoR b) (oa : okF (d + 1) false (foldX a) = true) (ob : okF (d + 1) false (foldX b) = true) : FoR ⟨k, 0, ⟨#[]⟩, [a, b]⟩ := by
 cases g6 : (k == 6) with
 | true =>
  cases f0 : ((foldX a).k == 1) with
  | false => exact foldS_sub0 k hk a b iha ihb oa ob f0 g6
  | true =>
   cases f1 : ((foldX b).k == 1) with
   | false => exact foldS_sub1 k hk a b iha ihb oa ob f0 f1 g6
   | true =>
    obtain ⟨m, hm⟩ := two11_some (a := (foldX a).n) (b := (foldX b).n) (k := k) (.inr (beq_iff_eq.1 g6))
    exact foldS_num k hk a b iha ihb oa ob f0 f1 m hm
 | false =>
  cases g5 : (k == 5) with
  | true =>
   cases f0 : ((foldX a).k == 1) with
   | false =>
    cases f1 : ((foldX b).k == 1) with
    | false => exact foldS_add0 k hk a b iha ihb oa ob f0 f1 g6 g5
    | true => exact foldS_add2 k hk a b iha ihb oa ob f0 f1 g6 g5
   | true =>
    cases f1 : ((foldX b).k == 1) with
    | false => exact foldS_add1 k hk a b iha ihb oa ob f0 f1 g6 g5
    | true =>
     obtain ⟨m, hm⟩ := two11_some (a := (foldX a).n) (b := (foldX b).n) (k := k) (.inl (beq_iff_eq.1 g5))
     exact foldS_num k hk a b iha ihb oa ob f0 f1 m hm
  | false =>
   cases f0 : ((foldX a).k == 1) with
   | false => exact foldS_mix0 k hk a b iha ihb oa ob f0 g6 g5
   | true =>
    cases f1 : ((foldX b).k == 1) with
    | false => exact foldS_mix1 k hk a b iha ihb oa ob f0 f1 g6 g5
    | true =>
     cases ht : two11 k (foldX a).n (foldX b).n with
     | some m => exact foldS_num k hk a b iha ihb oa ob f0 f1 m ht
     | none => exact foldS_none k hk a b iha ihb oa ob f0 f1 g6 g5 ht
theorem foldS_all : ∀ (d : Nat) (e : Ex), okF d false e = true → FoR e := by
 intro d
 induction d with
 | zero => intro e h; rw [okF] at h; cases h
 | succ d ih =>
  intro e h
  rcases ok_sev h with ⟨n, hn, rfl⟩ | ⟨s, hs, rfl⟩ | rfl | ⟨n, hn, rfl⟩ | ⟨s, hs, rfl⟩ | ⟨a, ha, rfl⟩ | ⟨k, a, b, hk, ha, hb, rfl⟩
  · exact foldS_leaf _ _ _ (by show 0 ≤ 1048576; omega)
  · exact foldS_leaf _ _ _ (by have := name_szF hs; omega)
  · exact foldS_leaf _ _ _ (by show 0 ≤ 1048576; omega)
  · exact foldS_leaf _ _ _ (by show 0 ≤ 1048576; omega)
  · exact foldS_leaf _ _ _ (by have := name_szF hs; omega)
  ·
   have oa := fold_ok d a ha
   obtain ⟨c, rfl⟩ := ok_pos ha
   have hn : 0 ≤ (foldX a).n ∧ (foldX a).n ≤ 65535 ∨ (foldX a).k ≠ 1 := by
    by_cases h1 : (foldX a).k = 1
    · obtain ⟨m, hm, e⟩ := ok_k1 oa h1; rw [e]; exact .inl hm
    · exact .inr h1
   cases f0 : ((foldX a).k == 1) with
   | false => exact foldS_neg0 a (ih a ha) f0 hn
   | true => exact foldS_neg1 a (ih a ha) f0 hn
  ·
   have oa := fold_ok d a ha
   have ob := fold_ok d b hb
   obtain ⟨c, rfl⟩ := ok_pos ha
   exact foldS_two k hk a b (ih a ha) (ih b hb) oa ob
def foldA (e : Ex) : Ex := if okF 6 false e = true then foldX e else e
theorem foldA_yes (e : Ex) (b : Option Addr) (cap : Nat) (w : World) (hr : RdX w 0 e b) (hz : e.sz ≤ 1048576) (ho : okF 6 false e = true) : Calls Tryd.prog 27 #[.agg (e.cs b cap)] w (GiR (foldA e) (Up w) w) := by
 have EQ := hide (show foldA e = foldX e by unfold foldA; rw [if_pos ho])
 rw [uh EQ]
 have X0 := hide (Bx.new w #[.int .i64 e.k, .int .i64 e.n, .string e.s, .slice b e.l.length cap])
 have OK := hide (okS_any e b cap _ (hr.later (uh X0).bel) hz)
 rw [ho] at OK
 have CA := hide (fun wr (h : Below w.heap.size w wr) => foldS_all 6 e ho b cap wr (hr.later h))
 generalize hX : GiR _ (Up w) w = X
 have HX := hide hX
 unfold GiR at CA
 unfold Ex.cs at CA OK ⊢
 clear hX hr hz ho EQ
 go_enter Tryd.func27, Tryd.ntmps27
 go_wp2_with fail
 generalize (w.alloc (.cells #[.int .i64 e.k, .int .i64 e.n, .string e.s, .slice b e.l.length cap] 43)).alloc (.cells #[.int .i64 0, .int .i64 0, .string ⟨#[]⟩, .slice none 0 0] 43) = W at *
 refine (uh OK).mono ?_
 rintro r w1 ⟨rfl, hb1⟩
 have X1 := hide ((uh X0).later hb1)
 have C1 := hide (uh CA w1 (uh X1).bel)
 clear hb1 X0 OK CA
 go_wp2_with (refine wpList_load_row rfl 43 _ rfl w.heap.size rfl 43 #[.int .i64 e.k, .int .i64 e.n, .string e.s, .slice b e.l.length cap] (0, 0) _ ((uh X1).box) Tryd.underlying43 rfl (by kernel_rfl) ?_)
 refine (uh C1).mono ?_
 rintro r w2 ⟨c2, cp2, rfl, hx, hb2⟩
 have hz1 := (uh X1).lt
 have X2 := hide ((uh X1).later hb2)
 have A2 := hide (hx.mono (fun b h => up_ow (w := w) (b := b) (Nat.le_trans hz1 h)))
 clear hx hb2 X1 C1
 generalize foldX e = y at *
 go_wp2_with (refine wpList_store_row rfl 43 _ _ rfl (w.heap.size + 1) #[.int .i64 y.k, .int .i64 y.n, .string y.s, .slice c2 y.l.length cp2] rfl rfl 43 _ ((uh X2).res) szE rfl (ex_one _ _ _ _ _ _) ?_)
 refine bodyPost_ret (results_cell_row (P := Tryd.prog) rfl _ _ (w.heap.size + 1) 43 #[.int .i64 y.k, .int .i64 y.n, .string y.s, .slice c2 y.l.length cp2] (0, 0) _ rfl (setRow_heap _ _ _ _ _ _ ((uh X2).res)) Tryd.underlying43 rfl szE) rfl ?_
 rw [← uh HX]
 exact (uh X2).end (uh A2) _
theorem foldA_no (e : Ex) (b : Option Addr) (cap : Nat) (w : World) (hr : RdX w 0 e b) (hz : e.sz ≤ 1048576) (ho : okF 6 false e = false) : Calls Tryd.prog 27 #[.agg (e.cs b cap)] w (GiR (foldA e) (Up w) w) := by
 have EQ := hide (show foldA e = e by unfold foldA; rw [if_neg (by rw [ho]; decide)])
 rw [uh EQ]
 have X0 := hide (Bx.new w #[.int .i64 e.k, .int .i64 e.n, .string e.s, .slice b e.l.length cap])
 have OK := hide (okS_any e b cap _ (hr.later (uh X0).bel) hz)
 rw [ho] at OK
 have CA := hide (fun wr (h : Below w.heap.size w wr) => copyS_any e b cap wr (hr.later h) hz)
 generalize hX : GiR _ (Up w) w = X
 have HX := hide hX
 unfold GiR at CA
 unfold Ex.cs at CA OK ⊢
 clear hX hr hz ho EQ
 go_enter Tryd.func27, Tryd.ntmps27
 go_wp2_with fail
 generalize (w.alloc (.cells #[.int .i64 e.k, .int .i64 e.n, .string e.s, .slice b e.l.length cap] 43)).alloc (.cells #[.int .i64 0, .int .i64 0, .string ⟨#[]⟩, .slice none 0 0] 43) = W at *
 refine (uh OK).mono ?_
 rintro r w1 ⟨rfl, hb1⟩
 have X1 := hide ((uh X0).later hb1)
 have C1 := hide (uh CA w1 (uh X1).bel)
 clear hb1 X0 OK CA
 go_wp2_with (refine wpList_load_row rfl 43 _ rfl w.heap.size rfl 43 #[.int .i64 e.k, .int .i64 e.n, .string e.s, .slice b e.l.length cap] (0, 0) _ ((uh X1).box) Tryd.underlying43 rfl (by kernel_rfl) ?_)
 refine (uh C1).mono ?_
 rintro r w2 ⟨c2, cp2, rfl, hx, hb2⟩
 have hz1 := (uh X1).lt
 have X2 := hide ((uh X1).later hb2)
 have A2 := hide (hx.mono (fun b h => up_ow (w := w) (b := b) (Nat.le_trans hz1 h)))
 clear hx hb2 X1 C1
 generalize e = y at *
 go_wp2_with (refine wpList_store_row rfl 43 _ _ rfl (w.heap.size + 1) #[.int .i64 y.k, .int .i64 y.n, .string y.s, .slice c2 y.l.length cp2] rfl rfl 43 _ ((uh X2).res) szE rfl (ex_one _ _ _ _ _ _) ?_)
 refine bodyPost_ret (results_cell_row (P := Tryd.prog) rfl _ _ (w.heap.size + 1) 43 #[.int .i64 y.k, .int .i64 y.n, .string y.s, .slice c2 y.l.length cp2] (0, 0) _ rfl (setRow_heap _ _ _ _ _ _ ((uh X2).res)) Tryd.underlying43 rfl szE) rfl ?_
 rw [← uh HX]
 exact (uh X2).end (uh A2) _
theorem foldA_any (e : Ex) (b : Option Addr) (cap : Nat) (w : World) (hr : RdX w 0 e b) (hz : e.sz ≤ 1048576) : Calls Tryd.prog 27 #[.agg (e.cs b cap)] w (GiR (foldA e) (Up w) w) := by
 cases ho : okF 6 false e with
 | true => exact foldA_yes e b cap w hr hz ho
 | false => exact foldA_no e b cap w hr hz ho
def zO : Nat → Nat
 | 0 => 0
 | d + 1 => 8 + 2 * zO d
theorem ok_sz : ∀ (d : Nat) (e : Ex), okF d false e = true → e.sz ≤ zO d := by
 intro d
 induction d with
 | zero => intro e h; rw [okF] at h; cases h
 | succ d ih =>
  intro e h
  have hE : (E0 : ByteArray).size = 0 := rfl
  rw [zO]
  rcases ok_sev h with ⟨n, hn, rfl⟩ | ⟨s, hs, rfl⟩ | rfl | ⟨n, hn, rfl⟩ | ⟨s, hs, rfl⟩ | ⟨a, ha, rfl⟩ | ⟨k, a, b, hk, ha, hb, rfl⟩
  · rw [sz_leaf, hE]; omega
  · rw [sz_leaf]; have := name_szF hs; omega
  · rw [sz_leaf, hE]; omega
  · rw [sz_leaf, hE]; omega
  · rw [sz_leaf]; have := name_szF hs; omega
  · rw [show E0 = (⟨#[]⟩ : ByteArray) from rfl, sz_one]; have := ih a ha; omega
  · rw [show E0 = (⟨#[]⟩ : ByteArray) from rfl, sz_two]; have := ih a ha; have := ih b hb; omega
def SmP (a : Ex) : Prop := ∀ (b : Ex) (pa pb : Option Addr) (ca cb : Nat) (w : World), RdX w 0 a pa → RdX w 0 b pb → a.sz ≤ 1048576 → b.sz ≤ 1048576 → Calls Tryd.prog 26 #[.agg (a.cs pa ca), .agg (b.cs pb cb)] w fun r w' => r = .returned (.bool (sameX a b)) ∧ Below w.heap.size w w'
theorem sameS_of (a : Ex) (ih : ∀ i, i < a.l.length → SmP (xAt a.l i)) : SmP a := by
 intro b pa pb ca cb w ha hb hza hzb
 have hsa := sz_is a
 have hsb := sz_is b
 have hbW : Below w.heap.size w ((w.alloc (.cells (a.cs pa ca) 43)).alloc (.cells (b.cs pb cb) 43)) := ((Below.refl _ _).alloc (Nat.le_refl _) _).alloc (by simp) _
 have h1 := ha.later hbW
 have h2 := hb.later hbW
 rw [RdX_eq] at h1 h2
 have hpa : ∀ i, i < a.l.length → (xAt a.l i).sz ≤ 1048576 := fun i hi => by have := sz_part hi; omega
 have hpb : ∀ i, i < b.l.length → (xAt b.l i).sz ≤ 1048576 := fun i hi => by have := sz_part hi; omega
 have hma : a.l.length ≤ 1048576 := by omega
 have hmb : b.l.length ≤ 1048576 := by omega
 obtain ⟨T, hT⟩ : ∃ T, sameX a b = T := ⟨_, rfl⟩
 have HT := hide hT
 rw [hT]
 rw [sameX_n] at HT
 clear hT hsa hsb hza hzb ha hb
 have ga : ((w.alloc (.cells (a.cs pa ca) 43)).alloc (.cells (b.cs pb cb) 43)).heap[w.heap.size]? = some (.cells (a.cs pa ca) 43 (0, 0)) := ((Below.refl (w.heap.size + 1) (w.alloc (.cells (a.cs pa ca) 43))).alloc (by simp) _).block _ (by omega) |>.trans Array.getElem?_push_size
 have gb : ((w.alloc (.cells (a.cs pa ca) 43)).alloc (.cells (b.cs pb cb) 43)).heap[w.heap.size + 1]? = some (.cells (b.cs pb cb) 43 (0, 0)) := by
  have e : (w.alloc (.cells (a.cs pa ca) 43)).heap.size = w.heap.size + 1 := by simp
  rw [← e]; exact Array.getElem?_push_size
 unfold headX at HT
 unfold Ex.cs at ga gb hbW h1 h2 ⊢
 generalize a.l = la at *
 generalize b.l = lb at *
 generalize a.k = ak at *
 generalize a.n = an at *
 generalize a.s = asv at *
 generalize b.k = bk at *
 generalize b.n = bn at *
 generalize b.s = bsv at *
 obtain ⟨na, hna⟩ : ∃ n, la.length = n := ⟨_, rfl⟩
 obtain ⟨nb, hnb⟩ : ∃ n, lb.length = n := ⟨_, rfl⟩
 rw [hna] at ga gb hbW h1 h2 hma hpa ih HT ⊢
 rw [hnb] at ga gb hbW h1 h2 hmb hpb HT ⊢
 generalize hW : (w.alloc (.cells #[.int .i64 ak, .int .i64 an, .string asv, .slice pa na ca] 43)).alloc (.cells #[.int .i64 bk, .int .i64 bn, .string bsv, .slice pb nb cb] 43) = W at *
 have la0 : w.heap.size < W.heap.size := (Array.getElem?_eq_some_iff.1 ga).1
 have lb0 : w.heap.size + 1 < W.heap.size := (Array.getElem?_eq_some_iff.1 gb).1
 have X0 := Lib.cell_of_heap ga 0
 have X1 := Lib.cell_of_heap ga 1
 have X2 := Lib.cell_of_heap ga 2
 have X3 := Lib.cell_of_heap ga 3
 have Y0 := Lib.cell_of_heap gb 0
 have Y1 := Lib.cell_of_heap gb 1
 have Y2 := Lib.cell_of_heap gb 2
 have Y3 := Lib.cell_of_heap gb 3
 have B0 := hide hbW
 have x3 : ∀ y : Sub W.heap.size W, y.w.cell? ⟨w.heap.size, 3, none⟩ = some (.slice pa na ca) := fun y => (y.h.cell (p := ⟨w.heap.size, _, none⟩) la0).trans X3
 have y3 : ∀ y : Sub W.heap.size W, y.w.cell? ⟨w.heap.size + 1, 3, none⟩ = some (.slice pb nb cb) := fun y => (y.h.cell (p := ⟨w.heap.size + 1, _, none⟩) lb0).trans Y3
 have ne := Sub.ne W.heap.size W
 have HZ := hide (Nat.le_refl W.heap.size)
 have HB := hide (fun y : Sub W.heap.size W => (uh B0).trans (y.h.mono (uh B0).size))
 clear ga gb hbW la0 lb0
 by_cases e1 : ak = bk
 rotate_left
 ·
  have q : (ak == bk) = false := beq_eq_false_iff_ne.2 e1
  have E := hide (show T = false by rw [← uh HT, q]; rfl)
  clear HT ih h1 h2 hpa hpb
  go_enter Tryd.func26, Tryd.ntmps26
  go_wp2
  go_ret
  exact ⟨by rw [uh E]; rfl, uh B0⟩
 subst e1
 by_cases e2 : an = bn
 rotate_left
 ·
  have q : (an == bn) = false := beq_eq_false_iff_ne.2 e2
  have E := hide (show T = false by rw [← uh HT, q]; simp)
  clear HT ih h1 h2 hpa hpb
  go_enter Tryd.func26, Tryd.ntmps26
  go_wp2
  go_ret
  exact ⟨by rw [uh E]; rfl, uh B0⟩
 subst e2
 by_cases e3 : asv = bsv
 rotate_left
 ·
  have q : (asv.toList == bsv.toList) = false := str_ne e3
  have E := hide (show T = false by rw [← uh HT, show eqB asv bsv = false from q]; simp)
  clear HT ih h1 h2 hpa hpb
  go_enter Tryd.func26, Tryd.ntmps26
  go_wp2
  go_ret
  exact ⟨by rw [uh E]; rfl, uh B0⟩
 subst e3
 by_cases e4 : na = nb
 rotate_left
 ·
  have q : (na == nb) = false := beq_eq_false_iff_ne.2 e4
  have q2 : ((na : Int) == (nb : Int)) = false := beq_eq_false_iff_ne.2 (by omega)
  have q3 : (na : Int) ≠ (nb : Int) := by omega
  have E := hide (show T = false by rw [← uh HT, q]; simp)
  clear HT ih h1 h2 hpa hpb
  go_enter Tryd.func26, Tryd.ntmps26
  go_wp2
  go_ret
  exact ⟨by rw [uh E]; rfl, uh B0⟩
 subst e4
 have HN := hide (show sameN la lb na = T by rw [← uh HT, (eqB_iff asv asv).2 rfl]; simp)
 clear HT
 go_enter Tryd.func26, Tryd.ntmps26
 go_wp2
 go_loopw [5] (fun i wr => ∃ (j : Nat) (z : Sub W.heap.size W), j ≤ na ∧ i = .int .i64 j ∧ Hid (sameN la lb j = true) ∧ wr = z.w) (fun i _ => na - (intOf i).toNat)
 case atStart => exact ⟨0, ⟨W, Below.refl _ _⟩, Nat.zero_le _, rfl, rfl, rfl⟩
 case round =>
  obtain ⟨j, z, hj, rfl, hd, rfl⟩ := hrel
  by_cases hlt : j < na
  ·
   rcases h1 with h0 | ⟨p1, o1, hp1, _, l1, c1⟩
   · rw [h0] at hna; simp at hna; omega
   rcases h2 with h0 | ⟨p2, o2, hp2, _, l2, c2⟩
   · rw [h0] at hnb; simp at hnb; omega
   subst hp1 hp2
   obtain ⟨e0, e1, e2, u1, v1, e3, e4⟩ := c1 j (by omega)
   obtain ⟨f0, f1, f2, u2, v2, f3, f4⟩ := c2 j (by omega)
   have d0 : ∀ y : Sub W.heap.size W, y.w.cell? ⟨p1, o1 + j * 4, none⟩ = _ := fun y => (y.h.cell (p := ⟨p1, _, none⟩) l1).trans e0
   have d1 : ∀ y : Sub W.heap.size W, y.w.cell? ⟨p1, o1 + j * 4 + 1, none⟩ = _ := fun y => (y.h.cell (p := ⟨p1, _, none⟩) l1).trans e1
   have d2 : ∀ y : Sub W.heap.size W, y.w.cell? ⟨p1, o1 + j * 4 + 2, none⟩ = _ := fun y => (y.h.cell (p := ⟨p1, _, none⟩) l1).trans e2
   have d3 : ∀ y : Sub W.heap.size W, y.w.cell? ⟨p1, o1 + j * 4 + 3, none⟩ = _ := fun y => (y.h.cell (p := ⟨p1, _, none⟩) l1).trans e3
   have g0 : ∀ y : Sub W.heap.size W, y.w.cell? ⟨p2, o2 + j * 4, none⟩ = _ := fun y => (y.h.cell (p := ⟨p2, _, none⟩) l2).trans f0
   have g1 : ∀ y : Sub W.heap.size W, y.w.cell? ⟨p2, o2 + j * 4 + 1, none⟩ = _ := fun y => (y.h.cell (p := ⟨p2, _, none⟩) l2).trans f1
   have g2 : ∀ y : Sub W.heap.size W, y.w.cell? ⟨p2, o2 + j * 4 + 2, none⟩ = _ := fun y => (y.h.cell (p := ⟨p2, _, none⟩) l2).trans f2
   have g3 : ∀ y : Sub W.heap.size W, y.w.cell? ⟨p2, o2 + j * 4 + 3, none⟩ = _ := fun y => (y.h.cell (p := ⟨p2, _, none⟩) l2).trans f3
   have HE := hide (fun y : Sub W.heap.size W => ih j hlt (xAt lb j) u1 u2 v1 v2 y.w (e4.later y.h) (f4.later y.h) (hpa j hlt) (hpb j hlt))
   have SN := hide (sameN_s la lb j)
   have SP := hide (fun h => sameN_part (l := la) (m := lb) hlt h)
   have HD := hide hd.out
   clear e0 e1 e2 e3 e4 f0 f1 f2 f3 f4 c1 c2 ih hpa hpb hd
   unfold Ex.cs at HE
   generalize sameX (xAt la j) (xAt lb j) = q at *
   generalize (xAt la j).s = s1 at *
   generalize (xAt la j).k = k1 at *
   generalize (xAt la j).n = n1 at *
   generalize (xAt la j).l.length = ll1 at *
   generalize (xAt lb j).s = s2 at *
   generalize (xAt lb j).k = k2 at *
   generalize (xAt lb j).n = n2 at *
   generalize (xAt lb j).l.length = ll2 at *
   cases q with
   | false =>
    have E := hide ((uh HN).symm.trans (uh SP rfl))
    go_wp2_with fail
    refine wp_region_sub z (by kernel_rfl) (by kernel_rfl) ?_
    repeat (go_big_quiet_step (first | (go_at_call 26; exact Sub.call (uh HZ) (uh HE _))))
    refine wpQuiet_nil ?_
    intro y
    go_wp2
    go_ret
    exact ⟨by rw [uh E]; rfl, uh HB _⟩
   | true =>
    go_wp2_with fail
    refine wp_region_sub z (by kernel_rfl) (by kernel_rfl) ?_
    repeat (go_big_quiet_step (first | (go_at_call 26; exact Sub.call (uh HZ) (uh HE _))))
    refine wpQuiet_nil ?_
    intro y
    go_wp2
    go_roundw
    case rel => exact ⟨j + 1, y, by omega, by go_num, hide (by rw [uh SN, uh HD]; rfl), rfl⟩
    case measure => simp [intOf]; omega
  ·
   obtain rfl : j = na := by omega
   have E := hide ((uh HN).symm.trans hd.out)
   clear hd
   go_wp2
   go_ret
   exact ⟨by rw [uh E]; rfl, uh HB _⟩
theorem sameS_any (a : Ex) : SmP a := by
 induction a using Ex.ind with
 | h k n s l ih => exact sameS_of _ (fun i hi => ih _ (xAt_mem hi))
def rgtB (n : Int) (e : Ex) : Bool := okF 6 false e && (trB n e && sameX (foldA e) e)
theorem rgtS (e : Ex) (b : Option Addr) (cap : Nat) (n : Int) (w : World) (hr : RdX w 0 e b) (hz : e.sz ≤ 1048576) : Calls Tryd.prog 12 #[.agg (e.cs b cap), .int .i64 n] w fun r w' => r = .returned (.bool (rgtB n e)) ∧ Below w.heap.size w w' := by
 have hbW := below_new w (.cells (e.cs b cap) 43)
 obtain ⟨W, hW⟩ : ∃ W, w.alloc (.cells (e.cs b cap) 43) = W := ⟨_, rfl⟩
 have hrW := hr.later hbW
 have hg0 : W.heap[w.heap.size]? = some (.cells (e.cs b cap) 43 (0, 0)) := by rw [← hW]; exact heap_alloc_new w _
 rw [hW] at hbW hrW
 have RW := hide (fun (w' : World) (h : Below W.heap.size W w') => (h.block _ (Array.getElem?_eq_some_iff.1 hg0).1).trans hg0)
 have BW := hide (fun (w' : World) (h : Below W.heap.size W w') => hbW.trans (h.mono hbW.size))
 have OK := hide (fun (w' : World) (h : Below W.heap.size W w') => okS_any e b cap w' (hrW.later h) hz)
 have TR := hide (fun (w' : World) (h : Below W.heap.size W w') => trS_any e b cap n w' (hrW.later h) hz)
 have FO := hide (fun (w' : World) (h : Below W.heap.size W w') => foldA_any e b cap w' (hrW.later h) hz)
 have SA := hide (fun (ho : okF 6 false e = true) (w' : World) (h : Below W.heap.size W w') (c : Option Addr) (cp : Nat) (h2 : RdX w' 0 (foldA e) c) => sameS_any (foldA e) e c b cp cap w' h2 (hrW.later h) (by
  have e1 : foldA e = foldX e := by unfold foldA; rw [if_pos ho]
  rw [e1]
  have := ok_sz 6 _ (fold_ok 6 e ho)
  have h3 : zO 6 ≤ 1048576 := by decide
  omega) hz)
 have RB := hide (show rgtB n e = (okF 6 false e && (trB n e && sameX (foldA e) e)) from rfl)
 generalize rgtB n e = D at *
 clear hr hz hrW hbW hg0
 generalize hq : okF 6 false e = q at *
 generalize trB n e = q2 at *
 generalize foldA e = f at *
 unfold Ex.cs at hW RW OK TR FO SA ⊢
 generalize sameX f e = q3 at *
 generalize e.k = ek at *
 generalize e.n = en at *
 generalize e.s = es at *
 generalize e.l.length = el at *
 cases q
 ·
  have V := hide (show D = false from uh RB)
  clear RB TR FO SA
  go_enter Tryd.func12, Tryd.ntmps12
  go_wp2_with fail
  have hd := below_drew (w := W)
  have D0 := hide (show (fun w' => w'.heap[w.heap.size]? = some (.cells #[.int .i64 ek, .int .i64 en, .string es, .slice b el cap] 43 (0, 0))) W.drew from uh RW _ hd)
  refine wp_region_held_drew (S := fun w' => w'.heap[w.heap.size]? = some (.cells #[.int .i64 ek, .int .i64 en, .string es, .slice b el cap] 43 (0, 0))) (by kernel_rfl) (uh D0) (fun hS => ?_)
  have HS := hide hS
  have Hw0 := hide hd
  clear hS D0 hd
  generalize W.drew = w0 at *
  refine tkA 0 (.agg #[.int .i64 ek, .int .i64 en, .string es, .slice b el cap]) rfl (yields_loadG (by rfl) 43 _ rfl w.heap.size rfl 43 #[.int .i64 ek, .int .i64 en, .string es, .slice b el cap] _ (fun w h => h) Tryd.underlying43 rfl (by kernel_rfl)) (uh HS) ?_
  go_simp
  refine wpAnyH_ready (rs := [1]) (by kernel_rfl) (by simp) ?_
  refine AllReadyH.cons rfl (fun K2 hK => ?_) AllReadyH.nil
  go_simp
  refine (uh OK w0 (uh Hw0)).mono ?_
  rintro r w1 ⟨rfl, hb⟩
  have Hw1 := hide ((uh Hw0).trans (hb.mono (uh Hw0).size))
  clear hb OK
  refine hK.out _ _ (uh RW w1 (uh Hw1)) (fun hS => ?_)
  clear HS
  have HS := hide hS
  clear hS hK K2
  refine tkB 2 (.bool false) rfl (uh HS) ?_
  go_simp
  refine tkA 3 (undef) rfl (Or.inr ⟨by rfl, rfl⟩) (uh HS) ?_
  go_simp
  refine tkA 4 (undef) rfl (Or.inr ⟨by rfl, rfl⟩) (uh HS) ?_
  go_simp
  refine tkA 5 (undef) rfl (Or.inr ⟨by rfl, rfl⟩) (uh HS) ?_
  go_simp
  refine tkB 6 (.bool false) rfl (uh HS) ?_
  go_simp
  refine tkB 7 (.bool false) rfl (uh HS) ?_
  go_simp
  refine tkA 8 (undef) rfl (Or.inr ⟨by rfl, rfl⟩) (uh HS) ?_
  go_simp
  refine tkA 9 (undef) rfl (Or.inr ⟨by rfl, rfl⟩) (uh HS) ?_
  go_simp
  refine tkA 10 (undef) rfl (Or.inr ⟨by rfl, rfl⟩) (uh HS) ?_
  go_simp
  refine tkA 11 (undef) rfl (Or.inr ⟨by rfl, rfl⟩) (uh HS) ?_
  go_simp
  refine tkB 12 (.bool false) rfl (uh HS) ?_
  go_simp
  refine tkB 13 (.bool false) rfl (uh HS) ?_
  go_simp
  refine wpAnyH_done (by kernel_rfl) ?_ _
  clear HS
  have BB := hide (uh BW w1 (uh Hw1))
  go_wp2
  go_ret
  exact ⟨by rw [uh V]; rfl, uh BB⟩
 ·
  replace SA := hide (uh SA rfl)
  cases q2
  ·
   have V := hide (show D = false from uh RB)
   clear RB FO SA
   go_enter Tryd.func12, Tryd.ntmps12
   go_wp2_with fail
   have hd := below_drew (w := W)
   have D0 := hide (show (fun w' => w'.heap[w.heap.size]? = some (.cells #[.int .i64 ek, .int .i64 en, .string es, .slice b el cap] 43 (0, 0))) W.drew from uh RW _ hd)
   refine wp_region_held_drew (S := fun w' => w'.heap[w.heap.size]? = some (.cells #[.int .i64 ek, .int .i64 en, .string es, .slice b el cap] 43 (0, 0))) (by kernel_rfl) (uh D0) (fun hS => ?_)
   have HS := hide hS
   have Hw0 := hide hd
   clear hS D0 hd
   generalize W.drew = w0 at *
   refine tkA 0 (.agg #[.int .i64 ek, .int .i64 en, .string es, .slice b el cap]) rfl (yields_loadG (by rfl) 43 _ rfl w.heap.size rfl 43 #[.int .i64 ek, .int .i64 en, .string es, .slice b el cap] _ (fun w h => h) Tryd.underlying43 rfl (by kernel_rfl)) (uh HS) ?_
   go_simp
   refine wpAnyH_ready (rs := [1]) (by kernel_rfl) (by simp) ?_
   refine AllReadyH.cons rfl (fun K2 hK => ?_) AllReadyH.nil
   go_simp
   refine (uh OK w0 (uh Hw0)).mono ?_
   rintro r w1 ⟨rfl, hb⟩
   have Hw1 := hide ((uh Hw0).trans (hb.mono (uh Hw0).size))
   clear hb OK
   refine hK.out _ _ (uh RW w1 (uh Hw1)) (fun hS => ?_)
   clear HS
   have HS := hide hS
   clear hS hK K2
   refine tkB 2 (.bool true) rfl (uh HS) ?_
   go_simp
   refine tkA 3 (.agg #[.int .i64 ek, .int .i64 en, .string es, .slice b el cap]) rfl (yields_loadG (by rfl) 43 _ rfl w.heap.size rfl 43 #[.int .i64 ek, .int .i64 en, .string es, .slice b el cap] _ (fun w h => h) Tryd.underlying43 rfl (by kernel_rfl)) (uh HS) ?_
   go_simp
   refine tkB 4 (.int .i64 n) rfl (uh HS) ?_
   go_simp
   refine wpAnyH_ready (rs := [5]) (by kernel_rfl) (by simp) ?_
   refine AllReadyH.cons rfl (fun K2 hK => ?_) AllReadyH.nil
   go_simp
   refine (uh TR w1 (uh Hw1)).mono ?_
   rintro r w2 ⟨rfl, hb⟩
   have Hw2 := hide ((uh Hw1).trans (hb.mono (uh Hw1).size))
   clear hb TR
   refine hK.out _ _ (uh RW w2 (uh Hw2)) (fun hS => ?_)
   clear HS
   have HS := hide hS
   clear hS hK K2
   refine tkB 6 (.bool false) rfl (uh HS) ?_
   go_simp
   refine tkB 7 (.bool false) rfl (uh HS) ?_
   go_simp
   refine tkA 8 (undef) rfl (Or.inr ⟨by rfl, rfl⟩) (uh HS) ?_
   go_simp
   refine tkA 9 (undef) rfl (Or.inr ⟨by rfl, rfl⟩) (uh HS) ?_
   go_simp
   refine tkA 10 (undef) rfl (Or.inr ⟨by rfl, rfl⟩) (uh HS) ?_
   go_simp
   refine tkA 11 (undef) rfl (Or.inr ⟨by rfl, rfl⟩) (uh HS) ?_
   go_simp
   refine tkB 12 (.bool false) rfl (uh HS) ?_
   go_simp
   refine tkB 13 (.bool false) rfl (uh HS) ?_
   go_simp
   refine wpAnyH_done (by kernel_rfl) ?_ _
   clear HS
   have BB := hide (uh BW w2 (uh Hw2))
   go_wp2
   go_ret
   exact ⟨by rw [uh V]; rfl, uh BB⟩
  ·
   have V := hide (show D = q3 from by have := uh RB; simpa using this)
   clear RB
   go_enter Tryd.func12, Tryd.ntmps12
   go_wp2_with fail
   have hd := below_drew (w := W)
   have D0 := hide (show (fun w' => w'.heap[w.heap.size]? = some (.cells #[.int .i64 ek, .int .i64 en, .string es, .slice b el cap] 43 (0, 0))) W.drew from uh RW _ hd)
   refine wp_region_held_drew (S := fun w' => w'.heap[w.heap.size]? = some (.cells #[.int .i64 ek, .int .i64 en, .string es, .slice b el cap] 43 (0, 0))) (by kernel_rfl) (uh D0) (fun hS => ?_)
   have HS := hide hS
   have Hw0 := hide hd
   clear hS D0 hd
   generalize W.drew = w0 at *
   refine tkA 0 (.agg #[.int .i64 ek, .int .i64 en, .string es, .slice b el cap]) rfl (yields_loadG (by rfl) 43 _ rfl w.heap.size rfl 43 #[.int .i64 ek, .int .i64 en, .string es, .slice b el cap] _ (fun w h => h) Tryd.underlying43 rfl (by kernel_rfl)) (uh HS) ?_
   go_simp
   refine wpAnyH_ready (rs := [1]) (by kernel_rfl) (by simp) ?_
   refine AllReadyH.cons rfl (fun K2 hK => ?_) AllReadyH.nil
   go_simp
   refine (uh OK w0 (uh Hw0)).mono ?_
   rintro r w1 ⟨rfl, hb⟩
   have Hw1 := hide ((uh Hw0).trans (hb.mono (uh Hw0).size))
   clear hb OK
   refine hK.out _ _ (uh RW w1 (uh Hw1)) (fun hS => ?_)
   clear HS
   have HS := hide hS
   clear hS hK K2
   refine tkB 2 (.bool true) rfl (uh HS) ?_
   go_simp
   refine tkA 3 (.agg #[.int .i64 ek, .int .i64 en, .string es, .slice b el cap]) rfl (yields_loadG (by rfl) 43 _ rfl w.heap.size rfl 43 #[.int .i64 ek, .int .i64 en, .string es, .slice b el cap] _ (fun w h => h) Tryd.underlying43 rfl (by kernel_rfl)) (uh HS) ?_
   go_simp
   refine tkB 4 (.int .i64 n) rfl (uh HS) ?_
   go_simp
   refine wpAnyH_ready (rs := [5]) (by kernel_rfl) (by simp) ?_
   refine AllReadyH.cons rfl (fun K2 hK => ?_) AllReadyH.nil
   go_simp
   refine (uh TR w1 (uh Hw1)).mono ?_
   rintro r w2 ⟨rfl, hb⟩
   have Hw2 := hide ((uh Hw1).trans (hb.mono (uh Hw1).size))
   clear hb TR
   refine hK.out _ _ (uh RW w2 (uh Hw2)) (fun hS => ?_)
   clear HS
   have HS := hide hS
   clear hS hK K2
   refine tkB 6 (.bool true) rfl (uh HS) ?_
   go_simp
   refine tkB 7 (.bool true) rfl (uh HS) ?_
   go_simp
   refine tkA 8 (.agg #[.int .i64 ek, .int .i64 en, .string es, .slice b el cap]) rfl (yields_loadG (by rfl) 43 _ rfl w.heap.size rfl 43 #[.int .i64 ek, .int .i64 en, .string es, .slice b el cap] _ (fun w h => h) Tryd.underlying43 rfl (by kernel_rfl)) (uh HS) ?_
   go_simp
   refine tkA 10 (.agg #[.int .i64 ek, .int .i64 en, .string es, .slice b el cap]) rfl (yields_loadG (by rfl) 43 _ rfl w.heap.size rfl 43 #[.int .i64 ek, .int .i64 en, .string es, .slice b el cap] _ (fun w h => h) Tryd.underlying43 rfl (by kernel_rfl)) (uh HS) ?_
   go_simp
   refine wpAnyH_ready (rs := [9]) (by kernel_rfl) (by simp) ?_
   refine AllReadyH.cons rfl (fun K2 hK => ?_) AllReadyH.nil
   go_simp
   refine (uh FO w2 (uh Hw2)).mono ?_
   rintro r w3 ⟨c, cp, rfl, hpx, hb⟩
   have Hw3 := hide ((uh Hw2).trans (hb.mono (uh Hw2).size))
   have PX3 := hide hpx.rd
   clear hpx
   clear hb FO
   refine hK.out _ _ (uh RW w3 (uh Hw3)) (fun hS => ?_)
   clear HS
   have HS := hide hS
   clear hS hK K2
   refine wpAnyH_ready (rs := [11]) (by kernel_rfl) (by simp) ?_
   refine AllReadyH.cons rfl (fun K2 hK => ?_) AllReadyH.nil
   go_simp
   refine (uh SA w3 (uh Hw3) c cp (uh PX3)).mono ?_
   rintro r w4 ⟨rfl, hb⟩
   have Hw4 := hide ((uh Hw3).trans (hb.mono (uh Hw3).size))
   clear hb SA PX3
   refine hK.out _ _ (uh RW w4 (uh Hw4)) (fun hS => ?_)
   clear HS
   have HS := hide hS
   clear hS hK K2
   refine tkB 12 (.bool q3) rfl (uh HS) ?_
   go_simp
   refine tkB 13 (.bool q3) rfl (uh HS) ?_
   go_simp
   refine wpAnyH_done (by kernel_rfl) ?_ _
   clear HS
   have BB := hide (uh BW w4 (uh Hw4))
   go_wp2
   go_ret
   exact ⟨by rw [uh V]; rfl, uh BB⟩
theorem sameX_comm (a b : Ex) : sameX a b = sameX b a := by rw [Bool.eq_iff_iff, sameX_iff, sameX_iff]; exact ⟨Eq.symm, Eq.symm⟩
theorem eql_if {t u : TypeId} {x y : Value} {q : Bool} (h : ∀ w, (Op.equalIn 10000 81 (.iface t x) (.iface u y)).run Tryd.prog w = .ok q w) (w : World) : (binOp .eql 81 (.iface t x) (.iface u y)).run Tryd.prog w = .ok (.bool q) w := by
 simp only [binOp]
 simp [Op.equal, Op.maxDepth, h]
theorem rgt_I (m : Int) (e : Ex) : rgtB m e = (okF 6 false e && (sameX e (foldX e) && trB m e)) := by
 unfold rgtB
 cases h : okF 6 false e with
 | false => rfl
 | true => unfold foldA; rw [if_pos h, sameX_comm, Bool.and_comm (trB m e)]
theorem mtoI (m : Int) (e : Ex) (b : Option Addr) (cap : Nat) (w : World) (hr : RdX w 0 e b) (hz : e.sz ≤ 1048576) (ht : TabK w) : Calls Tryd.prog 32 #[.agg (e.cs b cap), .int .i64 m] w fun r w' => r = .returned (.bool (rgtB m e)) ∧ Below w.heap.size w w' := by
 have B0 := below_new w (.cells (e.cs b cap) 43)
 have HH := hide (term_all 6 (by omega) e b cap _ (hr.later B0) hz (ht.next B0))
 have HB := hide B0
 have FT := hide (fun (h : okF 6 false e = true) w1 => ft_all 6 e w1 h)
 have EQ := hide (fun (h : okF 6 false e = true) w1 => tve 6 e (foldX e) 10000 w1 h (fold_ok 6 e h) (by decide))
 have IP := hide (fun h w1 => ofm_all m 6 e w1 h)
 rw [rgt_I]
 clear hr B0 ht
 unfold TermR at HH
 obtain ⟨t, x, e1⟩ := tv_if e
 obtain ⟨u, y, e2⟩ := tv_if (foldX e)
 rw [e1] at HH FT EQ IP
 rw [e2] at FT EQ
 clear e1 e2
 unfold VaR at FT
 generalize okF 6 false e = q at *
 generalize sameX e (foldX e) = q2 at *
 generalize trB m e = q3 at *
 unfold Ex.cs at HH HB ⊢
 generalize e.l.length = ll at *
 go_enter Tryd.func32, Tryd.ntmps32
 go_wp2_with fail
 refine (uh HH).mono ?_
 rintro r w1 ⟨v, rfl, hv, hb1⟩
 have BB := hide ((uh HB).trans (hb1.mono (uh HB).size))
 have HI := hide hv.1
 cases q with
 | false =>
  clear hb1 HH HB hv IP EQ FT
  go_wp2
  go_ret
  exact ⟨rfl, uh BB⟩
 | true =>
  have hve := hv.2 rfl
  subst hve
  have F2 := hide (uh FT rfl w1)
  have I2 := hide (uh IP rfl)
  have eqt := eql_if (uh EQ rfl)
  clear hb1 HH HB hv IP EQ FT HI
  cases q2 with
  | false =>
   go_wp2_with (go_at_call 50; refine (uh F2).mono ?_; rintro r w2 ⟨rfl, hb2⟩)
   go_ret
   exact ⟨rfl, (uh BB).trans (hb2.mono (uh BB).size)⟩
  | true =>
   go_wp2_with (go_at_call 50; refine (uh F2).mono ?_; rintro r w2 ⟨rfl, hb2⟩)
   have B2 := hide ((uh BB).trans (hb2.mono (uh BB).size))
   have I3 := hide (uh I2 w2)
   clear hb2 BB I2
   go_wp2_with (go_at_call 51; refine (uh I3).mono ?_; rintro r w3 ⟨rfl, hb3⟩)
   go_ret
   exact ⟨rfl, (uh B2).trans (hb3.mono (uh B2).size)⟩
def FstR (l : List Se) (s : ByteArray) (v : Int) : Prop := (∃ k : Nat, v = k ∧ k < l.length ∧ ((l.getD k KSe.z).s.toList == s.toList) = true ∧ ∀ j, j < k → ((l.getD j KSe.z).s.toList == s.toList) = false) ∨ (v = -1 ∧ ∀ j, j < l.length → ((l.getD j KSe.z).s.toList == s.toList) = false)
theorem satI (s t : ByteArray) (o : Bool) (c : Value) (g : Nat) (w : World) (hg : w.cell? ⟨g, 0, none⟩ = some (.string s)) : Calls Tryd.prog 48 #[.agg #[.string t, .bool o, c], .pointer (some ⟨g, 0, none⟩)] w fun r w' => r = .returned (.bool (t.toList == s.toList)) ∧ Below w.heap.size w w' := by
 obtain ⟨W, hW⟩ : ∃ W, w.alloc (.cells #[.string t, .bool o, c] 39) = W := ⟨_, rfl⟩
 have B0 := hide (below_new w (.cells #[.string t, .bool o, c] 39))
 have h0 : W.heap[w.heap.size]? = some (.cells #[.string t, .bool o, c] 39 (0, 0)) := by rw [← hW]; exact Array.getElem?_push_size
 rw [hW] at B0
 have gl : g < W.heap.size := Nat.lt_of_lt_of_le (World.block_lt_of_cell? w _ hg) (uh B0).size
 have g0 := ((uh B0).cell (p := ⟨g, 0, none⟩) (World.block_lt_of_cell? w _ hg)).trans hg
 have x0 := Lib.cell_of_heap h0 0
 have xl : w.heap.size < W.heap.size := (Array.getElem?_eq_some_iff.1 h0).1
 clear h0 xl gl hg
 generalize hq : (t.toList == s.toList) = q at *
 go_enter Tryd.func48, Tryd.ntmps48
 go_wp2
 go_ret
 exact ⟨rfl, uh B0⟩
theorem idxSe (l : List Se) (a : Option Addr) (n cap : Nat) (s : ByteArray) (g : Nat) (w : World) (hr : RdV KSe w 0 a l) (hn : l.length = n) (hm : n ≤ 1048576) (hg : w.cell? ⟨g, 0, none⟩ = some (.string s)) : Calls Tryd.prog 47 #[.slice a n cap, .func (.func 48) #[] #[.pointer (some ⟨g, 0, none⟩)]] w fun r w' => ∃ v, r = .returned (.int .i64 v) ∧ FstR l s v ∧ Below w.heap.size w w' := by
 have eg : ∀ args w, (callFunc 48 args).run Tryd.prog w = .ok (.enter 48 args) w := by intro args w; kernel_rfl
 have gl := World.block_lt_of_cell? w _ hg
 have CL := hide (fun (t : ByteArray) (o : Bool) (c : Value) (y : Sub w.heap.size w) => satI s t o c g y.w ((y.h.cell (p := ⟨g, 0, none⟩) gl).trans hg))
 have FN := hide (fun (v : Int) (h : FstR l s v) (y : Sub w.heap.size w) => (show ∃ u, Ending.returned (.int .i64 v) = .returned (.int .i64 u) ∧ FstR l s u ∧ Below w.heap.size w y.w from ⟨v, rfl, h, y.h⟩))
 have HIT := hide (fun (k : Nat) (hk : k < l.length) h1 h2 => (show FstR l s k from .inl ⟨k, rfl, hk, h1, h2⟩))
 have MISS := hide (fun h => (show FstR l s (-1) from .inr ⟨rfl, h⟩))
 have HR := hide hr
 obtain ⟨z, hz⟩ : ∃ z : Sub w.heap.size w, w = z.w := ⟨⟨w, Below.refl _ _⟩, rfl⟩
 have HZZ := hide hz
 clear hz
 have ne := Sub.ne w.heap.size w
 have HZ := hide (Nat.le_refl w.heap.size)
 obtain ⟨Q, hQ⟩ : ∃ Q : Ending → World → Prop, (fun r w' => ∃ v, r = .returned (.int .i64 v) ∧ FstR l s v ∧ Below w.heap.size w w') = Q := ⟨_, rfl⟩
 have FQ := hide (fun v h (y : Sub w.heap.size w) => (show Q (.returned (.int .i64 v)) y.w from by rw [← hQ]; exact uh FN v h y))
 rw [hQ]
 clear hr hg FN hQ
 obtain ⟨B, hB⟩ : ∃ B, w.heap.size = B := ⟨_, rfl⟩
 clear gl
 go_enter Tryd.func47, Tryd.ntmps47
 go_wp2
 go_loopw [8] (fun iv wr => ∃ (k : Nat) (y : Sub w.heap.size w), k ≤ n ∧ iv = .int .i64 k ∧ wr = y.w ∧ Hid (∀ j, j < k → ((l.getD j KSe.z).s.toList == s.toList) = false)) (fun iv _ => n - (intOf iv).toNat)
 case atStart => exact ⟨0, z, Nat.zero_le _, rfl, uh HZZ, fun j hj => by omega⟩
 case round =>
  obtain ⟨k, y, hk, rfl, rfl, hd⟩ := hrel
  by_cases hlt : k < n
  ·
   have hkl : k < l.length := by omega
   obtain ⟨b, off, rfl, _, hbl, ra⟩ := (uh HR).resolve_left (fun e => by rw [e] at hn; simp at hn; omega)
   obtain ⟨⟨qb, qc⟩, c1, c2⟩ := ra k hkl
   have d0 : ∀ y : Sub w.heap.size w, y.w.cell? ⟨b, off + k * 3, none⟩ = some (.string (l.getD k KSe.z).s) := fun y => cellb y.h (c1 0 _ rfl)
   have d1 : ∀ y : Sub w.heap.size w, y.w.cell? ⟨b, off + k * 3 + 1, none⟩ = some (.bool (l.getD k KSe.z).o) := fun y => cellb y.h (c1 1 _ rfl)
   have d2 : ∀ y : Sub w.heap.size w, y.w.cell? ⟨b, off + k * 3 + 2, none⟩ = some (.slice qb (l.getD k KSe.z).l.length qc) := fun y => cellb y.h (c1 2 _ rfl)
   have H1 := hide (uh HIT k hkl)
   have H2 := hide (show ((l.getD k KSe.z).s.toList == s.toList) = false → ∀ j, j < k + 1 → ((l.getD j KSe.z).s.toList == s.toList) = false from fun h j hj => by
    by_cases e : j = k
    · subst e; exact h
    · exact hd.out j (by omega))
   have HD := hide hd.out
   clear ra c1 c2 hd
   generalize (l.getD k KSe.z).s = sk at *
   generalize (l.getD k KSe.z).o = ok at *
   generalize (l.getD k KSe.z).l.length = lk at *
   have C1 := hide (uh CL sk ok (.slice qb lk qc) y)
   clear HR
   cases hq : (sk.toList == s.toList) with
   | true =>
    rw [hq] at C1
    have E := hide (uh H1 hq (uh HD))
    have e0 := d0 y
    have e1 := d1 y
    have e2 := d2 y
    clear H1 H2 d0 d1 d2 HD
    go_wp2_with (go_at_call 48; refine (Sub.call (uh HZ) (uh C1)).mono ?_; rintro r _ ⟨rfl, y2, rfl⟩)
    exact uh FQ _ (uh E) y2
   | false =>
    rw [hq] at C1
    have E := hide (uh H2 hq)
    have e0 := d0 y
    have e1 := d1 y
    have e2 := d2 y
    clear H1 H2 d0 d1 d2 HD
    go_wp2_with (go_at_call 48; refine (Sub.call (uh HZ) (uh C1)).mono ?_; rintro r _ ⟨rfl, y2, rfl⟩)
    go_roundw
    case rel => exact ⟨k + 1, y2, by omega, by go_num, rfl, uh E⟩
    case measure => simp [intOf]; omega
  ·
   obtain rfl : k = n := by omega
   have E := hide (uh MISS (fun j hj => hd.out j (by omega)))
   clear hd
   go_wp2
   exact uh FQ _ (uh E) y
theorem secAtI (l : List Se) (a : Option Addr) (n cap : Nat) (s : ByteArray) (w : World) (hr : RdV KSe w 0 a l) (hn : l.length = n) (hm : n ≤ 1048576) : Calls Tryd.prog 31 #[.slice a n cap, .string s] w fun r w' => ∃ v, r = .returned (.int .i64 v) ∧ FstR l s v ∧ Below w.heap.size w w' := by
 obtain ⟨W, hW⟩ : ∃ W, w.alloc (.cells #[.string s] 9) = W := ⟨_, rfl⟩
 have B0 := below_new w (.cells #[.string s] 9)
 have h0 : W.heap[w.heap.size]? = some (.cells #[.string s] 9 (0, 0)) := by rw [← hW]; exact Array.getElem?_push_size
 rw [hW] at B0
 have IX := hide (idxSe l a n cap s w.heap.size W (hr.later B0) hn hm (Lib.cell_of_heap h0 0))
 have HB := hide B0
 have hmf : ∀ (fn : Fn) (first cap : Array Value) (w : World), (Instr.makeFunc fn first cap).run Tryd.prog w = .ok (.func fn first cap) w := fun _ _ _ _ => rfl
 clear h0 B0 hr
 go_enter Tryd.func31, Tryd.ntmps31
 go_wp2_with fail
 refine (uh IX).mono ?_
 rintro r w1 ⟨v, rfl, hv, hb⟩
 have HV := hide hv
 have BB := hide ((uh HB).trans (hb.mono (uh HB).size))
 clear hv hb
 go_wp2
 go_ret
 exact ⟨v, rfl, uh HV, uh BB⟩
section
def KEx : Kd Ex Pl where
 n := 4
 z := X0
 cs x p := [.int .i64 x.k, .int .i64 x.n, .string x.s, .slice p.b x.l.length p.c]
 len _ _ := rfl
 rd w B x p := RdX w B x p.b
 keep x p hs hc h := RdX.keep hs hc _ _ h
 lower x p hC h := RdX.lower hC _ _ h
 ow w x p F := OwX w x p.b F
 okeep x p F hk h := OwX.keep _ _ _ hk h
 olt x p F h := OwX.lt _ _ _ h
 ord x p F hB h := OwX.rd _ _ _ hB h
theorem RdV.ex {w : World} {B : Nat} {a : Option Addr} {l : List Ex} (h : RdV KEx w B a l) : RdX w B ⟨0, 0, E0, l⟩ a := by
 rw [RdX_eq]
 rcases h with h | ⟨b, off, e, h1, h2, h3⟩
 · exact .inl h
 ·
  refine .inr ⟨b, off, e, h1, h2, fun i hi => ?_⟩
  obtain ⟨p, c1, c2⟩ := h3 i hi
  exact ⟨c1 0 _ rfl, c1 1 _ rfl, c1 2 _ rfl, p.b, p.c, c1 3 _ rfl, c2⟩
section
variable {H : Type} {enc : TypeId × Value → H} {W : World} {b0 base : Nat} {spare : TypeId → Bool} {held : Bool}
theorem trod_exs (fuel : Nat) (cs : List Value) (x : DataW H × List MemPlace) (h : DataW.trod enc Tryd.prog W base spare held fuel 52 cs = some x) : ∃ (a : Option Addr) (cap : Nat) (l : List Ex), cs = [.slice a l.length cap] ∧ RdX W 0 ⟨0, 0, E0, l⟩ a ∧ Fit ⟨0, 0, E0, l⟩ := by
 obtain ⟨a, cap, l, h1, h2, h3, h4⟩ := trodV KEx (fit := Fit) Tryd.underlying52 (by kernel_rfl) (by decide) ⟨none, 0⟩ (fun fuel cs x h => by
  obtain ⟨e, b, cap, h1, h2, h3⟩ := trod_ex fuel cs x h
  exact ⟨e, ⟨b, cap⟩, h1, h2, h3⟩) fuel cs x h
 exact ⟨a, cap, l, h1, h2.ex, (Fit_eq _).2 ⟨show E0.size ≤ 9223372036854775807 by decide, h4, h3⟩⟩
theorem trod_2 {P : Program} {t : TypeId} {f0 f1 : Field} {fuel : Nat} {cs : List Value} {x : DataW H × List MemPlace} (ht : P.underlying t = some (.struct #[f0, f1])) (h : DataW.trod enc P W base spare held fuel t cs = some x) :
  ∃ y0 y1 n, cs.length = P.cellsOf t ∧ DataW.trod enc P W base spare held n f0.type ((cs.drop f0.offset).take (P.cellsOf f0.type)) = some y0 ∧ DataW.trod enc P W base spare held n f1.type ((cs.drop f1.offset).take (P.cellsOf f1.type)) = some y1 := by
 obtain ⟨xs, n, hf, rfl, hl, hlen, hfs⟩ := DataW.trod_struct ht h
 match xs, hlen with
 | [y0, y1], _ => exact ⟨y0, y1, n, hl, by simpa using hfs 0 f0 rfl, by simpa using hfs 1 f1 rfl⟩
theorem trod_3 {P : Program} {t : TypeId} {f0 f1 f2 : Field} {fuel : Nat} {cs : List Value} {x : DataW H × List MemPlace} (ht : P.underlying t = some (.struct #[f0, f1, f2])) (h : DataW.trod enc P W base spare held fuel t cs = some x) :
  ∃ y0 y1 y2 n, cs.length = P.cellsOf t ∧ DataW.trod enc P W base spare held n f0.type ((cs.drop f0.offset).take (P.cellsOf f0.type)) = some y0 ∧ DataW.trod enc P W base spare held n f1.type ((cs.drop f1.offset).take (P.cellsOf f1.type)) = some y1 ∧ DataW.trod enc P W base spare held n f2.type ((cs.drop f2.offset).take (P.cellsOf f2.type)) = some y2 := by
 obtain ⟨xs, n, hf, rfl, hl, hlen, hfs⟩ := DataW.trod_struct ht h
 match xs, hlen with
 | [y0, y1, y2], _ => exact ⟨y0, y1, y2, n, hl, by simpa using hfs 0 f0 rfl, by simpa using hfs 1 f1 rfl, by simpa using hfs 2 f2 rfl⟩
theorem trod_se (fuel : Nat) (cs : List Value) (x : DataW H × List MemPlace) (h : DataW.trod enc Tryd.prog W base spare held fuel 54 cs = some x) : ∃ (t : Se) (p : Pl), cs = KSe.cs t p ∧ KSe.rd W 0 t p ∧ t.fit := by
 obtain ⟨y0, y1, y2, n, hl, h0, h1, h2⟩ := trod_3 Tryd.underlying54 h
 have hc : Tryd.prog.cellsOf 54 = 3 := by kernel_rfl
 have hc0 : Tryd.prog.cellsOf 9 = 1 := by kernel_rfl
 have hc1 : Tryd.prog.cellsOf 4 = 1 := by kernel_rfl
 have hc2 : Tryd.prog.cellsOf 52 = 1 := by kernel_rfl
 rw [hc] at hl
 match cs, hl with
 | [c0, c1, c2], _ =>
  obtain ⟨s, e0, _, w0⟩ := DataW.trod_string Tryd.underlying9 h0
  obtain ⟨b, e1, _⟩ := DataW.trod_bool Tryd.underlying4 h1
  obtain ⟨a, cap, l, e2, hr, hf⟩ := trod_exs _ _ _ h2
  simp only [hc0, hc1, hc2] at e0 e1 e2
  simp at e0 e1 e2
  subst e0 e1 e2
  have hs9 : s.size ≤ 9223372036854775807 := by have := w0; unfold maxLen at this; omega
  exact ⟨⟨s, b, l⟩, ⟨a, cap⟩, rfl, hr, hs9, hf⟩
theorem trod_gl (fuel : Nat) (cs : List Value) (x : DataW H × List MemPlace) (h : DataW.trod enc Tryd.prog W base spare held fuel 59 cs = some x) : ∃ (t : Gl) (p : Pl), cs = KGl.cs t p ∧ KGl.rd W 0 t p ∧ t.fit := by
 obtain ⟨y0, y1, n, hl, h0, h1⟩ := trod_2 Tryd.underlying59 h
 have hc : Tryd.prog.cellsOf 59 = 5 := by kernel_rfl
 have hc0 : Tryd.prog.cellsOf 9 = 1 := by kernel_rfl
 have hc1 : Tryd.prog.cellsOf 57 = 4 := by kernel_rfl
 rw [hc] at hl
 match cs, hl with
 | [c0, c1, c2, c3, c4], _ =>
  obtain ⟨s, e0, _, w0⟩ := DataW.trod_string Tryd.underlying9 h0
  obtain ⟨e, b, cap, e1, hr, hf⟩ := trod_ex _ _ _ h1
  simp only [hc0, hc1] at e0 e1
  simp at e0 e1
  obtain ⟨rfl, rfl, rfl, rfl⟩ := e1
  subst e0
  have hs9 : s.size ≤ 9223372036854775807 := by have := w0; unfold maxLen at this; omega
  exact ⟨⟨s, e⟩, ⟨b, cap⟩, rfl, hr, hs9, hf⟩
theorem trod_ob (fuel : Nat) (cs : List Value) (x : DataW H × List MemPlace) (h : DataW.trod enc Tryd.prog W base spare held fuel 25 cs = some x) : ∃ (t : Ob) (p : Po), cs = KOb.cs t p ∧ KOb.rd W 0 t p ∧ t.fit := by
 obtain ⟨y0, y1, n, hl, h0, h1⟩ := trod_2 Tryd.underlying25 h
 have hc : Tryd.prog.cellsOf 25 = 2 := by kernel_rfl
 have hc0 : Tryd.prog.cellsOf 22 = 1 := by kernel_rfl
 have hc1 : Tryd.prog.cellsOf 23 = 1 := by kernel_rfl
 rw [hc] at hl
 match cs, hl with
 | [c0, c1], _ =>
  obtain ⟨a0, cap0, l0, e0, r0, f0, m0⟩ := trodV KSe (fit := Se.fit) Tryd.underlying22 (by kernel_rfl) (by decide) ⟨none, 0⟩ trod_se _ _ _ h0
  obtain ⟨a1, cap1, l1, e1, r1, f1, m1⟩ := trodV KGl (fit := Gl.fit) Tryd.underlying23 (by kernel_rfl) (by decide) ⟨none, 0⟩ trod_gl _ _ _ h1
  simp only [hc0, hc1] at e0 e1
  simp at e0 e1
  subst e0 e1
  exact ⟨⟨l0, l1⟩, ⟨⟨a0, cap0⟩, ⟨a1, cap1⟩⟩, rfl, ⟨r0, r1⟩, ⟨f0, f1, m0, m1⟩⟩
theorem open_ob {r : Reach} {v : Value} {d : DataW H} {p : List MemPlace} (hv : Value.okWide Tryd.prog W r b0 25 v) (h : DataW.Trod enc Tryd.prog W base spare held 25 v d p) : ∃ (x : Ob) (q : Po), v = .agg (KOb.cs x q).toArray ∧ KOb.rd W 0 x q ∧ x.fit := by
 obtain ⟨cs, rfl, hsz⟩ := okWide_struct Tryd.underlying25 hv
 obtain ⟨fuel, hf⟩ := h
 obtain ⟨x, q, hcs, h1, h2⟩ := trod_ob _ _ _ hf
 refine ⟨x, q, ?_, h1, h2⟩
 have : cs.toList = KOb.cs x q := by simpa [Value.cells] using hcs
 rw [← Array.toArray_toList (xs := cs), this]
end
end
theorem lessX_neg {l : Int} {z : Nat} (h : l - (z : Int) < 0) : lessX l z = -1 := by unfold lessX; rw [if_pos h]
theorem lessX_pos {l : Int} {z : Nat} (h : ¬ l - (z : Int) < 0) : lessX l z = l - (z : Int) := by unfold lessX; rw [if_neg h]
def sT {α : Type} (f : α → Nat) (l : List α) (k : Nat) : Nat := ((l.take k).map f).sum
theorem sT_0 {α : Type} (f : α → Nat) (l : List α) : sT f l 0 = 0 := by simp [sT]
theorem sT_s {α : Type} (f : α → Nat) (z : α) (l : List α) (k : Nat) (h : k < l.length) : sT f l (k + 1) = sT f l k + f (l.getD k z) := sum_take f z l k h
theorem sT_le {α : Type} (f : α → Nat) (l : List α) (k : Nat) : sT f l k ≤ (l.map f).sum := sum_le f l k
theorem sT_end {α : Type} (f : α → Nat) (l : List α) : sT f l l.length = (l.map f).sum := by unfold sT; rw [List.take_length]
theorem szEs_any (l : List Ex) (b : Option Addr) (cap : Nat) (left : Int) (w : World) (hr : RdX w 0 ⟨0, 0, E0, l⟩ b) (hf : Fit ⟨0, 0, E0, l⟩) (h0 : 0 ≤ left) (h1 : left ≤ 1048576) : Calls Tryd.prog 35 #[.slice b l.length cap, .int .i64 left] w fun r w' => r = .returned (.int .i64 (lessX left (l.length + szX l))) ∧ Below w.heap.size w w' :=
 szXS_of ⟨0, 0, E0, l⟩ (fun i _ => szX_any _) b cap left w hr hf h0 h1
theorem szSe_any (x : Se) (p : Pl) (left : Int) (w : World) (hr : RdX w 0 x.e p.b) (hf : x.fit) (h0 : 0 ≤ left) (h1 : left ≤ 1048576) : Calls Tryd.prog 19 #[.agg (KSe.cs x p).toArray, .int .i64 left] w fun r w' => r = .returned (.int .i64 (lessX left x.zz)) ∧ Below w.heap.size w w' := by
 show Calls Tryd.prog 19 #[.agg #[.string x.s, .bool x.o, .slice p.b x.l.length p.c], .int .i64 left] w _
 have B0 := hide (below_new w (.cells #[.string x.s, .bool x.o, .slice p.b x.l.length p.c] 54))
 have hs := hf.1
 obtain ⟨z, hz⟩ : ∃ z : Nat, x.s.size = z := ⟨_, rfl⟩
 by_cases hneg : left - (z : Int) < 0
 ·
  have E := hide (show lessX left (x.zz) = -1 from lessX_neg (by show left - ((x.s.size + (x.l.length + szX x.l) : Nat) : Int) < 0; omega))
  rw [uh E]
  clear hr hf
  go_enter Tryd.func19, Tryd.ntmps19
  go_wp2
  go_ret
  exact ⟨rfl, uh B0⟩
 ·
  have HS := hide (szEs_any x.l p.b p.c (left - (z : Int)) (w.alloc (.cells #[.string x.s, .bool x.o, .slice p.b x.l.length p.c] 54)) (hr.later (uh B0)) hf.2 (by omega) (by omega))
  obtain ⟨z2, hz2⟩ : ∃ z2 : Nat, x.l.length + szX x.l = z2 := ⟨_, rfl⟩
  rw [hz2] at HS
  by_cases hneg2 : left - (z : Int) - (z2 : Int) < 0
  ·
   have E := hide (show lessX left (x.zz) = -1 from lessX_neg (by show left - ((x.s.size + (x.l.length + szX x.l) : Nat) : Int) < 0; omega))
   rw [uh E]
   rw [lessX_neg hneg2] at HS
   clear hr hf hz2
   go_enter Tryd.func19, Tryd.ntmps19
   go_wp2_with fail
   refine (uh HS).mono ?_
   rintro e w1 ⟨rfl, hb1⟩
   have B1 := hide ((uh B0).trans (hb1.mono (uh B0).size))
   clear hb1 HS
   go_wp2
   go_ret
   exact ⟨rfl, uh B1⟩
  ·
   have E := hide (show lessX left (x.zz) = left - (z : Int) - (z2 : Int) from (lessX_pos (by show ¬ left - ((x.s.size + (x.l.length + szX x.l) : Nat) : Int) < 0; omega)).trans (by show left - ((x.s.size + (x.l.length + szX x.l) : Nat) : Int) = _; omega))
   rw [uh E]
   rw [lessX_pos hneg2] at HS
   clear hr hf hz2
   go_enter Tryd.func19, Tryd.ntmps19
   go_wp2_with fail
   refine (uh HS).mono ?_
   rintro e w1 ⟨rfl, hb1⟩
   have B1 := hide ((uh B0).trans (hb1.mono (uh B0).size))
   clear hb1 HS
   go_wp2
   go_ret
   exact ⟨rfl, uh B1⟩
theorem szGl_any (x : Gl) (p : Pl) (left : Int) (w : World) (hr : RdX w 0 x.e p.b) (hf : x.fit) (h0 : 0 ≤ left) (h1 : left ≤ 1048576) : Calls Tryd.prog 20 #[.agg (KGl.cs x p).toArray, .int .i64 left] w fun r w' => r = .returned (.int .i64 (lessX left x.zz)) ∧ Below w.heap.size w w' := by
 show Calls Tryd.prog 20 #[.agg #[.string x.s, .int .i64 x.e.k, .int .i64 x.e.n, .string x.e.s, .slice p.b x.e.l.length p.c], .int .i64 left] w _
 have B0 := hide (below_new w (.cells #[.string x.s, .int .i64 x.e.k, .int .i64 x.e.n, .string x.e.s, .slice p.b x.e.l.length p.c] 59))
 have hs := hf.1
 obtain ⟨z, hz⟩ : ∃ z : Nat, x.s.size = z := ⟨_, rfl⟩
 by_cases hneg : left - (z : Int) < 0
 ·
  have E := hide (show lessX left (x.zz) = -1 from lessX_neg (by show left - ((x.s.size + x.e.sz : Nat) : Int) < 0; omega))
  rw [uh E]
  clear hr hf
  go_enter Tryd.func20, Tryd.ntmps20
  go_wp2
  go_ret
  exact ⟨rfl, uh B0⟩
 ·
  have HS := hide (szX_any x.e p.b p.c (left - (z : Int)) (w.alloc (.cells #[.string x.s, .int .i64 x.e.k, .int .i64 x.e.n, .string x.e.s, .slice p.b x.e.l.length p.c] 59)) (hr.later (uh B0)) hf.2 (by omega) (by omega))
  obtain ⟨z2, hz2⟩ : ∃ z2 : Nat, x.e.sz = z2 := ⟨_, rfl⟩
  rw [hz2] at HS
  by_cases hneg2 : left - (z : Int) - (z2 : Int) < 0
  ·
   have E := hide (show lessX left (x.zz) = -1 from lessX_neg (by show left - ((x.s.size + x.e.sz : Nat) : Int) < 0; omega))
   rw [uh E]
   rw [lessX_neg hneg2] at HS
   clear hr hf hz2
   go_enter Tryd.func20, Tryd.ntmps20
   go_wp2_with fail
   refine (uh HS).mono ?_
   rintro e w1 ⟨rfl, hb1⟩
   have B1 := hide ((uh B0).trans (hb1.mono (uh B0).size))
   clear hb1 HS
   go_wp2
   go_ret
   exact ⟨rfl, uh B1⟩
  ·
   have E := hide (show lessX left (x.zz) = left - (z : Int) - (z2 : Int) from (lessX_pos (by show ¬ left - ((x.s.size + x.e.sz : Nat) : Int) < 0; omega)).trans (by show left - ((x.s.size + x.e.sz : Nat) : Int) = _; omega))
   rw [uh E]
   rw [lessX_pos hneg2] at HS
   clear hr hf hz2
   go_enter Tryd.func20, Tryd.ntmps20
   go_wp2_with fail
   refine (uh HS).mono ?_
   rintro e w1 ⟨rfl, hb1⟩
   have B1 := hide ((uh B0).trans (hb1.mono (uh B0).size))
   clear hb1 HS
   go_wp2
   go_ret
   exact ⟨rfl, uh B1⟩
theorem szSes_any (l : List Se) (a : Option Addr) (cap : Nat) (left : Int) (w : World) (hr : RdV KSe w 0 a l) (hf : ∀ i, i < l.length → (l.getD i KSe.z).fit) (hm : l.length ≤ 9223372036854775807) (h0 : 0 ≤ left) (h1 : left ≤ 1048576) : Calls Tryd.prog 9 #[.slice a l.length cap, .int .i64 left] w fun r w' => r = .returned (.int .i64 (lessX left (sumV Se.zz l))) ∧ Below w.heap.size w w' := by
 have HR := hide hr
 have HF := hide hf
 clear hr hf
 obtain ⟨len, hl⟩ : ∃ len, l.length = len := ⟨_, rfl⟩
 have SV := hide (show sumV Se.zz l = len + (l.map Se.zz).sum by unfold sumV; rw [hl])
 rw [hl] at hm ⊢
 by_cases hbig : left - (len : Int) < 0
 ·
  have E := hide (show lessX left (sumV Se.zz l) = -1 from lessX_neg (by rw [uh SV]; omega))
  rw [uh E]
  go_enter Tryd.func9, Tryd.ntmps9
  go_wp2
  go_ret
  exact ⟨rfl, Below.refl _ _⟩
 ·
  obtain ⟨T, hT⟩ : ∃ T, lessX left (sumV Se.zz l) = T := ⟨_, rfl⟩
  have HT := hide hT
  rw [hT]
  clear hT
  go_enter Tryd.func9, Tryd.ntmps9
  go_wp2
  go_loopw [1, 5] (fun lv i wr => ∃ k : Nat, k ≤ len ∧ i = .int .i64 k ∧ 0 ≤ left - (len : Int) - (sT Se.zz l k : Int) ∧ lv = .int .i64 (left - len - sT Se.zz l k) ∧ Below w.heap.size w wr) (fun _ i _ => len - (intOf i).toNat)
  case atStart => exact ⟨0, Nat.zero_le _, rfl, by rw [sT_0]; omega, by rw [sT_0]; simp, Below.refl _ _⟩
  case round =>
   obtain ⟨k, hk, rfl, hs, rfl, hb⟩ := hrel
   by_cases hlt : k < len
   ·
    have hkl : k < l.length := by omega
    obtain ⟨g, off, rfl, _, hg, ra⟩ := (uh HR).resolve_left (fun e => by rw [e] at hl; simp at hl; omega)
    obtain ⟨p, c1, c2⟩ := ra k hkl
    have RG := hide (show wr.rangeAt g (off + k * 3) (KSe.cs (l.getD k KSe.z) p) from fun j u hj => cellb hb (c1 j u hj))
    have HS := hide (szSe_any (l.getD k KSe.z) p (left - len - sT Se.zz l k) wr (Kd.later KSe c2 hb) (uh HF k hkl) hs (by omega))
    have SO := hide (show (Tryd.prog.info? 54).map (·.size) = some (KSe.cs (l.getD k KSe.z) p).length by kernel_rfl)
    have ST := hide (sT_s Se.zz KSe.z l k hkl)
    have SL := hide (sT_le Se.zz l (k + 1))
    clear ra HR HF c1 c2
    generalize hzs : Se.zz (l.getD k KSe.z) = z at ST
    rw [show (l.getD k KSe.z).zz = z from hzs] at HS
    generalize KSe.cs (l.getD k KSe.z) p = f at *
    by_cases hneg : left - (len : Int) - (sT Se.zz l k : Int) - (z : Int) < 0
    ·
     have E := hide (show T = -1 by rw [← uh HT]; exact lessX_neg (by rw [uh SV]; have := uh ST; have := uh SL; omega))
     rw [lessX_neg hneg] at HS
     go_wp2_with (first | ((with_reducible show wpList _ _ _ (⟨_, .load _ _, _, _, _, _⟩ :: _) _ _); refine wpList_load_mid rfl 54 _ rfl g (off + k * 3) rfl f _ (uh RG) Tryd.underlying54 rfl (uh SO) ?_) | (go_at_call 19; refine (uh HS).mono ?_; rintro e w1 ⟨rfl, hb1⟩))
     go_ret
     exact ⟨by rw [uh E]; rfl, hb.trans (hb1.mono hb.size)⟩
    ·
     rw [lessX_pos hneg] at HS
     go_wp2_with (first | ((with_reducible show wpList _ _ _ (⟨_, .load _ _, _, _, _, _⟩ :: _) _ _); refine wpList_load_mid rfl 54 _ rfl g (off + k * 3) rfl f _ (uh RG) Tryd.underlying54 rfl (uh SO) ?_) | (go_at_call 19; refine (uh HS).mono ?_; rintro e w1 ⟨rfl, hb1⟩))
     go_roundw
     case rel =>
      refine ⟨k + 1, by omega, by go_num, ?_, ?_, hb.trans (hb1.mono hb.size)⟩
      · rw [uh ST]; omega
      · rw [uh ST]; congr 1; omega
     case measure => simp [intOf]; omega
   ·
    obtain rfl : k = len := by omega
    have E := hide (show sT Se.zz l k = (l.map Se.zz).sum by rw [← hl]; exact sT_end _ _)
    rw [uh E] at hs
    have E2 := hide (show T = left - (k : Int) - sT Se.zz l k by rw [← uh HT, lessX_pos (by rw [uh SV]; omega), uh SV, uh E]; omega)
    go_wp2
    go_ret
    exact ⟨by rw [uh E2]; rfl, hb⟩
theorem szGls_any (l : List Gl) (a : Option Addr) (cap : Nat) (left : Int) (w : World) (hr : RdV KGl w 0 a l) (hf : ∀ i, i < l.length → (l.getD i KGl.z).fit) (hm : l.length ≤ 9223372036854775807) (h0 : 0 ≤ left) (h1 : left ≤ 1048576) : Calls Tryd.prog 10 #[.slice a l.length cap, .int .i64 left] w fun r w' => r = .returned (.int .i64 (lessX left (sumV Gl.zz l))) ∧ Below w.heap.size w w' := by
 have HR := hide hr
 have HF := hide hf
 clear hr hf
 obtain ⟨len, hl⟩ : ∃ len, l.length = len := ⟨_, rfl⟩
 have SV := hide (show sumV Gl.zz l = len + (l.map Gl.zz).sum by unfold sumV; rw [hl])
 rw [hl] at hm ⊢
 by_cases hbig : left - (len : Int) < 0
 ·
  have E := hide (show lessX left (sumV Gl.zz l) = -1 from lessX_neg (by rw [uh SV]; omega))
  rw [uh E]
  go_enter Tryd.func10, Tryd.ntmps10
  go_wp2
  go_ret
  exact ⟨rfl, Below.refl _ _⟩
 ·
  obtain ⟨T, hT⟩ : ∃ T, lessX left (sumV Gl.zz l) = T := ⟨_, rfl⟩
  have HT := hide hT
  rw [hT]
  clear hT
  go_enter Tryd.func10, Tryd.ntmps10
  go_wp2
  go_loopw [1, 5] (fun lv i wr => ∃ k : Nat, k ≤ len ∧ i = .int .i64 k ∧ 0 ≤ left - (len : Int) - (sT Gl.zz l k : Int) ∧ lv = .int .i64 (left - len - sT Gl.zz l k) ∧ Below w.heap.size w wr) (fun _ i _ => len - (intOf i).toNat)
  case atStart => exact ⟨0, Nat.zero_le _, rfl, by rw [sT_0]; omega, by rw [sT_0]; simp, Below.refl _ _⟩
  case round =>
   obtain ⟨k, hk, rfl, hs, rfl, hb⟩ := hrel
   by_cases hlt : k < len
   ·
    have hkl : k < l.length := by omega
    obtain ⟨g, off, rfl, _, hg, ra⟩ := (uh HR).resolve_left (fun e => by rw [e] at hl; simp at hl; omega)
    obtain ⟨p, c1, c2⟩ := ra k hkl
    have RG := hide (show wr.rangeAt g (off + k * 5) (KGl.cs (l.getD k KGl.z) p) from fun j u hj => cellb hb (c1 j u hj))
    have HS := hide (szGl_any (l.getD k KGl.z) p (left - len - sT Gl.zz l k) wr (Kd.later KGl c2 hb) (uh HF k hkl) hs (by omega))
    have SO := hide (show (Tryd.prog.info? 59).map (·.size) = some (KGl.cs (l.getD k KGl.z) p).length by kernel_rfl)
    have ST := hide (sT_s Gl.zz KGl.z l k hkl)
    have SL := hide (sT_le Gl.zz l (k + 1))
    clear ra HR HF c1 c2
    generalize hzs : Gl.zz (l.getD k KGl.z) = z at ST
    rw [show (l.getD k KGl.z).zz = z from hzs] at HS
    generalize KGl.cs (l.getD k KGl.z) p = f at *
    by_cases hneg : left - (len : Int) - (sT Gl.zz l k : Int) - (z : Int) < 0
    ·
     have E := hide (show T = -1 by rw [← uh HT]; exact lessX_neg (by rw [uh SV]; have := uh ST; have := uh SL; omega))
     rw [lessX_neg hneg] at HS
     go_wp2_with (first | ((with_reducible show wpList _ _ _ (⟨_, .load _ _, _, _, _, _⟩ :: _) _ _); refine wpList_load_mid rfl 59 _ rfl g (off + k * 5) rfl f _ (uh RG) Tryd.underlying59 rfl (uh SO) ?_) | (go_at_call 20; refine (uh HS).mono ?_; rintro e w1 ⟨rfl, hb1⟩))
     go_ret
     exact ⟨by rw [uh E]; rfl, hb.trans (hb1.mono hb.size)⟩
    ·
     rw [lessX_pos hneg] at HS
     go_wp2_with (first | ((with_reducible show wpList _ _ _ (⟨_, .load _ _, _, _, _, _⟩ :: _) _ _); refine wpList_load_mid rfl 59 _ rfl g (off + k * 5) rfl f _ (uh RG) Tryd.underlying59 rfl (uh SO) ?_) | (go_at_call 20; refine (uh HS).mono ?_; rintro e w1 ⟨rfl, hb1⟩))
     go_roundw
     case rel =>
      refine ⟨k + 1, by omega, by go_num, ?_, ?_, hb.trans (hb1.mono hb.size)⟩
      · rw [uh ST]; omega
      · rw [uh ST]; congr 1; omega
     case measure => simp [intOf]; omega
   ·
    obtain rfl : k = len := by omega
    have E := hide (show sT Gl.zz l k = (l.map Gl.zz).sum by rw [← hl]; exact sT_end _ _)
    rw [uh E] at hs
    have E2 := hide (show T = left - (k : Int) - sT Gl.zz l k by rw [← uh HT, lessX_pos (by rw [uh SV]; omega), uh SV, uh E]; omega)
    go_wp2
    go_ret
    exact ⟨by rw [uh E2]; rfl, hb⟩
theorem szOb_any (x : Ob) (p : Po) (left : Int) (w : World) (hr : KOb.rd w 0 x p) (hf : x.fit) (h0 : 0 ≤ left) (h1 : left ≤ 1048576) : Calls Tryd.prog 4 #[.agg (KOb.cs x p).toArray, .int .i64 left] w fun r w' => r = .returned (.int .i64 (lessX left x.zz)) ∧ Below w.heap.size w w' := by
 show Calls Tryd.prog 4 #[.agg #[.slice p.a.b x.ss.length p.a.c, .slice p.b.b x.gs.length p.b.c], .int .i64 left] w _
 have B0 := hide (below_new w (.cells #[.slice p.a.b x.ss.length p.a.c, .slice p.b.b x.gs.length p.b.c] 25))
 have R0 := hide (heap_alloc_new w (.cells #[.slice p.a.b x.ss.length p.a.c, .slice p.b.b x.gs.length p.b.c] 25))
 have HS := hide (szSes_any x.ss p.a.b p.a.c left (w.alloc (.cells #[.slice p.a.b x.ss.length p.a.c, .slice p.b.b x.gs.length p.b.c] 25)) (hr.1.later (uh B0)) hf.s hf.ns h0 h1)
 have HG := hide (fun (left2 : Int) (wr : World) (hb : Below w.heap.size w wr) (h0 : 0 ≤ left2) (h1 : left2 ≤ 1048576) => szGls_any x.gs p.b.b p.b.c left2 wr (hr.2.later hb) hf.g hf.ng h0 h1)
 have Z := hide (show x.zz = sumV Se.zz x.ss + sumV Gl.zz x.gs from rfl)
 clear hr hf
 generalize x.zz = zz at *
 generalize sumV Se.zz x.ss = z1 at *
 generalize sumV Gl.zz x.gs = z2 at *
 obtain rfl := uh Z
 clear Z
 by_cases hn1 : left - (z1 : Int) < 0
 ·
  rw [lessX_neg (z := z1 + z2) (by omega)]
  rw [lessX_neg hn1] at HS
  go_enter Tryd.func4, Tryd.ntmps4
  go_wp2_with fail
  refine (uh HS).mono ?_
  rintro e w1 ⟨rfl, hb1⟩
  have B1 := hide ((uh B0).trans (hb1.mono (uh B0).size))
  clear hb1 HS
  go_wp2
  go_ret
  exact ⟨rfl, uh B1⟩
 ·
  rw [lessX_pos hn1] at HS
  generalize hX : lessX left (z1 + z2) = X
  have HX := hide hX
  clear hX
  go_enter Tryd.func4, Tryd.ntmps4
  go_wp2_with fail
  refine (uh HS).mono ?_
  rintro e w1 ⟨rfl, hb1⟩
  have R1 := (hb1.block w.heap.size (by simp)).trans (uh R0)
  have c0 : w1.cell? ⟨w.heap.size, 0, none⟩ = _ := Lib.cell_of_heap R1 0
  have c1 : w1.cell? ⟨w.heap.size, 1, none⟩ = _ := Lib.cell_of_heap R1 1
  have B1 := hide ((uh B0).trans (hb1.mono (uh B0).size))
  have HG1 := hide (uh HG (left - (z1 : Int)) w1 (uh B1) (by omega) (by omega))
  clear hb1 HS R1 HG
  by_cases hn2 : left - (z1 : Int) - (z2 : Int) < 0
  ·
   have E := hide (show X = -1 by rw [← uh HX]; exact lessX_neg (by omega))
   rw [lessX_neg hn2] at HG1
   go_wp2_with fail
   refine (uh HG1).mono ?_
   rintro e w2 ⟨rfl, hb2⟩
   have B2 := hide ((uh B1).trans (hb2.mono (uh B1).size))
   clear hb2 HG1
   go_wp2
   go_ret
   exact ⟨by rw [uh E]; rfl, uh B2⟩
  ·
   have E := hide (show X = left - (z1 : Int) - (z2 : Int) by rw [← uh HX, lessX_pos (by omega)]; omega)
   rw [lessX_pos hn2] at HG1
   go_wp2_with fail
   refine (uh HG1).mono ?_
   rintro e w2 ⟨rfl, hb2⟩
   have B2 := hide ((uh B1).trans (hb2.mono (uh B1).size))
   clear hb2 HG1
   go_wp2
   go_ret
   exact ⟨by rw [uh E]; rfl, uh B2⟩
theorem toXS_of (e : Ex) (ih : ∀ i, i < e.l.length → ToP (xAt e.l i)) (b : Option Addr) (cap : Nat) (w : World) (hr : RdX w 0 e b) (hz : e.sz ≤ 1048576) : Calls Tryd.prog 43 #[.slice b e.l.length cap] w fun r w' => r = .returned (.slice (some ⟨w.heap.size, 0, none⟩) e.l.length e.l.length) ∧ NewX w' w.heap.size e (some ⟨w.heap.size, 0, none⟩) ∧ Below w.heap.size w w' := by
 have hsz := sz_is e
 have RD := hide (fun (w' : World) (M : Nat) (h : DoneX w' w.heap.size e.l e.l.length e.l.length e.l.length M) => DoneX.new h)
 rw [RdX_eq] at hr
 have hp : ∀ i, i < e.l.length → (xAt e.l i).sz ≤ 1048576 := fun i hi => by have := sz_part hi; omega
 have hm : e.l.length ≤ 1048576 := by omega
 clear hsz hz
 generalize hR : (fun w' => NewX w' w.heap.size e (some ⟨w.heap.size, 0, none⟩)) = R
 have hR' : ∀ w', NewX w' w.heap.size e (some ⟨w.heap.size, 0, none⟩) = R w' := fun w' => congrFun hR w'
 simp only [hR'] at RD ⊢
 clear hR hR'
 generalize e.l = l at *
 obtain ⟨len, hl⟩ : ∃ len, l.length = len := ⟨_, rfl⟩
 rw [hl] at hm ih hr hp RD ⊢
 obtain ⟨i0, hi, hz0, hz1, hz2⟩ := info_parts infoX
 obtain ⟨w1, hmk, hown, hgr⟩ := run_make_full (P := Tryd.prog) w w.heap.size 37 43 i0 _ 4 Tryd.underlying37 hi hz0 hz1 .i64 .i64 len (by rw [hz2]; omega) (by unfold maxLen; omega) (Nat.le_refl _)
 have O0 := hide (show DoneX w1 w.heap.size l len len 0 w1.heap.size from ⟨_, [], hown, rfl, List.nodup_nil, (fun b hb => by simp at hb), (fun i hi => by omega)⟩)
 have B0 := hide ((Below.refl w.heap.size w).grown hgr (Nat.le_refl _) (fun k h => by cases h))
 have G0 := hide (World.ownsRow.lt hown w.heap.size rfl).2
 clear hown hgr
 go_enter Tryd.func43, Tryd.ntmps43
 go_wp2
 clear hmk
 go_loopw [4] (fun i wr => ∃ k : Nat, k ≤ len ∧ i = .int .i64 k ∧ DoneX wr w.heap.size l len len k wr.heap.size ∧ w.heap.size < wr.heap.size ∧ Below w.heap.size w wr) (fun i _ => len - (intOf i).toNat)
 case atStart => exact ⟨0, Nat.zero_le _, rfl, uh O0, uh G0, uh B0⟩
 case round =>
  clear O0 B0 G0
  obtain ⟨k, hk, rfl, ho, hgl, hb⟩ := hrel
  by_cases hlt : k < len
  ·
   rcases hr with h0 | ⟨b, off, rfl, _, hbl, hc⟩
   · rw [h0] at hl; simp at hl; omega
   obtain ⟨c0, c1, c2, c, cap', c3, c4⟩ := hc k (by omega)
   have d0 : wr.cell? ⟨b, off + k * 4, none⟩ = _ := (hb.cell (p := ⟨b, _, none⟩) hbl).trans c0
   have d1 : wr.cell? ⟨b, off + k * 4 + 1, none⟩ = _ := (hb.cell (p := ⟨b, _, none⟩) hbl).trans c1
   have d2 : wr.cell? ⟨b, off + k * 4 + 2, none⟩ = _ := (hb.cell (p := ⟨b, _, none⟩) hbl).trans c2
   have d3 : wr.cell? ⟨b, off + k * 4 + 3, none⟩ = _ := (hb.cell (p := ⟨b, _, none⟩) hbl).trans c3
   have HT := hide (ih k hlt c cap' wr (c4.later hb) (hp k hlt))
   have PT := hide (fun (w2 : World) (hz2 : wr.heap.size ≤ w2.heap.size) (h : DoneX w2 w.heap.size l len len k wr.heap.size) (q : Option Addr) (cp : Nat) (hq : NewX w2 wr.heap.size (xAt l k) q) => h.put hlt hgl hz2 q cp hq (Nat.le_refl _))
   have O1 := hide ho
   have B1 := hide hb
   have ZB := hide hb.size
   have GL := hide hgl
   clear c0 c1 c2 c3 c4 hc ho hb hgl
   unfold Ex.cs at HT
   generalize (xAt l k).s = ss at d2 HT PT
   generalize (xAt l k).k = kk at d0 HT PT
   generalize (xAt l k).n = nn at d1 HT PT
   generalize (xAt l k).l.length = ll at d3 HT PT
   go_wp2_with fail
   refine (uh HT).mono ?_
   rintro e w2 ⟨q, cq, rfl, hq, hb2⟩
   have O2 := hide ((uh O1).later hb2)
   have B2 := hide ((uh B1).trans (hb2.mono (uh ZB)))
   have G2 := hide (Nat.lt_of_lt_of_le (uh GL) hb2.size)
   have PP := hide (uh PT w2 hb2.size (uh O2) q cq hq)
   obtain ⟨cs, _, own2, _⟩ := uh O2
   have hcl : cs.length = len * 4 := own2.1
   obtain ⟨v0, e0⟩ : ∃ v, cs[k * 4]? = some v := ⟨_, List.getElem?_eq_getElem (by omega)⟩
   obtain ⟨v1, e1⟩ : ∃ v, cs[k * 4 + 1]? = some v := ⟨_, List.getElem?_eq_getElem (by omega)⟩
   obtain ⟨v2, e2⟩ : ∃ v, cs[k * 4 + 2]? = some v := ⟨_, List.getElem?_eq_getElem (by omega)⟩
   obtain ⟨v3, e3⟩ : ∃ v, cs[k * 4 + 3]? = some v := ⟨_, List.getElem?_eq_getElem (by omega)⟩
   have c0 := (World.ownsRow.cellAt own2 (k * 4) (by omega)).trans e0
   have c1 := (World.ownsRow.cellAt own2 (k * 4 + 1) (by omega)).trans e1
   have c2 := (World.ownsRow.cellAt own2 (k * 4 + 2) (by omega)).trans e2
   have c3 := (World.ownsRow.cellAt own2 (k * 4 + 3) (by omega)).trans e3
   have f0 := World.ownsRow.frozenAt own2 (k * 4)
   have f1 := World.ownsRow.frozenAt own2 (k * 4 + 1)
   have f2 := World.ownsRow.frozenAt own2 (k * 4 + 2)
   have f3 := World.ownsRow.frozenAt own2 (k * 4 + 3)
   clear own2 hb2 O1 B1 HT PT O2 d0 d1 d2 d3 e0 e1 e2 e3 hq hcl
   go_wp2
   go_roundw
   case rel => exact ⟨k + 1, by omega, by go_num, by simpa using uh PP, by simpa using uh G2, ((((uh B2).setCell (p := ⟨w.heap.size, _, none⟩) (Nat.le_refl _) _).setCell (p := ⟨w.heap.size, _, none⟩) (Nat.le_refl _) _).setCell (p := ⟨w.heap.size, _, none⟩) (Nat.le_refl _) _).setCell (p := ⟨w.heap.size, _, none⟩) (Nat.le_refl _) _⟩
   case measure => simp [intOf]; omega
  ·
   obtain rfl : k = len := by omega
   have R1 := hide (uh RD wr _ ho)
   clear ho
   go_wp2
   go_ret
   exact ⟨rfl, uh R1, hb⟩
theorem three_new (w : World) (o1 o2 o3 : Obj) : Below w.heap.size w (((w.alloc o1).alloc o2).alloc o3) ∧ (((w.alloc o1).alloc o2).alloc o3).heap[w.heap.size + 1]? = some o2 ∧ (((w.alloc o1).alloc o2).alloc o3).heap[w.heap.size + 1 + 1]? = some o3 := by
 have h1 : (w.alloc o1).heap.size = w.heap.size + 1 := by simp
 have h2 : ((w.alloc o1).alloc o2).heap.size = w.heap.size + 1 + 1 := by simp
 have p2 : ((w.alloc o1).alloc o2).heap[w.heap.size + 1]? = some o2 := by rw [← h1]; exact Array.getElem?_push_size
 refine ⟨(((Below.refl _ _).alloc (Nat.le_refl _) _).alloc (by simp) _).alloc (by simp; omega) _, ?_, ?_⟩
 · exact ((Below.refl ((w.alloc o1).alloc o2).heap.size _).alloc (Nat.le_refl _) o3).block _ (by simp) |>.trans p2
 · rw [← h2]; exact Array.getElem?_push_size
theorem row4_set {w : World} {g : Nat} {u0 u1 u2 u3 : Value} {t : TypeId} (h : w.heap[g]? = some (.cells #[u0, u1, u2, u3] t (0, 0))) (v0 v1 v2 v3 : Value) : ((((w.setCell ⟨g, 0, none⟩ v0).setCell ⟨g, 1, none⟩ v1).setCell ⟨g, 2, none⟩ v2).setCell ⟨g, 3, none⟩ v3).heap[g]? = some (.cells #[v0, v1, v2, v3] t (0, 0)) :=
 heap_setCell_same _ g 3 _ t v3 (heap_setCell_same _ g 2 _ t v2 (heap_setCell_same _ g 1 _ t v1 (heap_setCell_same _ g 0 _ t v0 h)))
theorem toX_any (e : Ex) : ToP e := by
 induction e using Ex.ind with
 | h k n s l ih =>
  intro b cap w hr hz
  have e2 : (Ex.mk k n s l).l = l := rfl
  obtain ⟨W, hW⟩ : ∃ W, ((w.alloc (.cells #[.int .i64 k, .int .i64 n, .string s, .slice b l.length cap] 57)).alloc (.cells #[.int .i64 0, .int .i64 0, .string ⟨#[]⟩, .slice none 0 0] 43)).alloc (.cells #[.int .i64 k, .int .i64 n, .string s, .slice none 0 0] 43) = W := ⟨_, rfl⟩
  obtain ⟨hb, hg1, hg2⟩ := three_new w (.cells #[.int .i64 k, .int .i64 n, .string s, .slice b l.length cap] 57) (.cells #[.int .i64 0, .int .i64 0, .string ⟨#[]⟩, .slice none 0 0] 43) (.cells #[.int .i64 k, .int .i64 n, .string s, .slice none 0 0] 43)
  have hsz : w.heap.size + 3 = W.heap.size := by rw [← hW]; simp
  rw [hW] at hb hg1 hg2
  have HC := toXS_of ⟨k, n, s, l⟩ (fun i hi => ih _ (xAt_mem hi)) b cap W (hr.later hb) hz
  rw [e2] at HC
  have HD := HC.mono (R' := fun r w' => ∃ g, r = .returned (.slice (some ⟨g, 0, none⟩) l.length l.length) ∧ NewX w' (w.heap.size + 3) ⟨k, n, s, l⟩ (some ⟨g, 0, none⟩) ∧ Below w.heap.size w w' ∧ w'.heap[w.heap.size + 1]? = some (.cells #[.int .i64 0, .int .i64 0, .string ⟨#[]⟩, .slice none 0 0] 43 (0, 0)) ∧ w'.heap[w.heap.size + 1 + 1]? = some (.cells #[.int .i64 k, .int .i64 n, .string s, .slice none 0 0] 43 (0, 0))) (by
   rintro r w' ⟨rfl, h1, h2⟩
   exact ⟨_, rfl, h1.lower (by omega), hb.trans (h2.mono (by omega)), (h2.block _ (by omega)).trans hg1, (h2.block _ (by omega)).trans hg2⟩)
  have HH := hide HD
  rw [← hW] at HH
  unfold Ex.cs
  simp only
  clear hr hz ih HC HD hb hg1 hg2 hW hsz e2 W
  generalize hll : l.length = ll at *
  go_enter Tryd.func44, Tryd.ntmps44
  go_wp2_with fail
  refine (uh HH).mono ?_
  rintro r w2 ⟨g, rfl, hrd, hb2, hg1, hg2⟩
  have a0 := Lib.cell_of_heap hg1 0
  have a1 := Lib.cell_of_heap hg1 1
  have a2 := Lib.cell_of_heap hg1 2
  have a3 := Lib.cell_of_heap hg1 3
  have b0 := Lib.cell_of_heap hg2 0
  have b1 := Lib.cell_of_heap hg2 1
  have b2 := Lib.cell_of_heap hg2 2
  have b3 := Lib.cell_of_heap hg2 3
  have f0 := Lib.frozen_of_heap hg1 0
  have f1 := Lib.frozen_of_heap hg1 1
  have f2 := Lib.frozen_of_heap hg1 2
  have f3 := Lib.frozen_of_heap hg1 3
  have f4 := Lib.frozen_of_heap hg2 3
  clear HH
  have hg3 : (w2.setCell ⟨w.heap.size + 1 + 1, 3, none⟩ (.slice (some ⟨g, 0, none⟩) ll ll)).heap[w.heap.size + 1]? = _ := (heap_setCell_other w2 ⟨w.heap.size + 1 + 1, 3, none⟩ (w.heap.size + 1) (.slice (some ⟨g, 0, none⟩) ll ll) (by simp)).trans hg1
  have H1 := hide (fun v0 v1 v2 v3 => row4_set hg3 v0 v1 v2 v3)
  have R := hide (fun u v0 v1 v2 v3 => ((((hrd.far ⟨w.heap.size + 1 + 1, 3, none⟩ u (by simp)).far ⟨w.heap.size + 1, 0, none⟩ v0 (by simp)).far ⟨w.heap.size + 1, 1, none⟩ v1 (by simp)).far ⟨w.heap.size + 1, 2, none⟩ v2 (by simp)).far ⟨w.heap.size + 1, 3, none⟩ v3 (by simp))
  have B := hide (fun u v0 v1 v2 v3 => ((((hb2.setCell (p := ⟨w.heap.size + 1 + 1, 3, none⟩) (by simp; omega) u).setCell (p := ⟨w.heap.size + 1, 0, none⟩) (by simp) v0).setCell (p := ⟨w.heap.size + 1, 1, none⟩) (by simp) v1).setCell (p := ⟨w.heap.size + 1, 2, none⟩) (by simp) v2).setCell (p := ⟨w.heap.size + 1, 3, none⟩) (by simp) v3)
  clear hrd hb2 hg3
  go_wp2
  refine bodyPost_ret (results_cell_row (P := Tryd.prog) rfl _ _ (w.heap.size + 1) 43 #[.int .i64 k, .int .i64 n, .string s, .slice (some ⟨g, 0, none⟩) ll ll] (0, 0) _ rfl (uh H1 _ _ _ _) Tryd.underlying43 rfl (by kernel_rfl)) rfl ?_
  exact ⟨_, _, rfl, (uh R _ _ _ _ _).lower (by omega), uh B _ _ _ _ _⟩
theorem toEs_any (l : List Ex) (b : Option Addr) (cap : Nat) (w : World) (hr : RdX w 0 ⟨0, 0, E0, l⟩ b) (hz : (Ex.mk 0 0 E0 l).sz ≤ 1048576) : Calls Tryd.prog 43 #[.slice b l.length cap] w fun r w' => ∃ g, r = .returned (.slice (some ⟨g, 0, none⟩) l.length l.length) ∧ NewX w' w.heap.size ⟨0, 0, E0, l⟩ (some ⟨g, 0, none⟩) ∧ Below w.heap.size w w' :=
 (toXS_of ⟨0, 0, E0, l⟩ (fun i _ => toX_any _) b cap w hr hz).mono fun r w' ⟨h1, h2, h3⟩ => ⟨_, h1, h2, h3⟩
theorem row3_set {w : World} {g : Nat} {u0 u1 u2 : Value} {t : TypeId} (h : w.heap[g]? = some (.cells #[u0, u1, u2] t (0, 0))) (v0 v1 v2 : Value) : (((w.setCell ⟨g, 0, none⟩ v0).setCell ⟨g, 1, none⟩ v1).setCell ⟨g, 2, none⟩ v2).heap[g]? = some (.cells #[v0, v1, v2] t (0, 0)) :=
 heap_setCell_same _ g 2 _ t v2 (heap_setCell_same _ g 1 _ t v1 (heap_setCell_same w g 0 _ t v0 h))
theorem toSe_any (x : Se) (p : Pl) (w : World) (hr : RdX w 0 x.e p.b) (hz : x.e.sz ≤ 1048576) : Calls Tryd.prog 28 #[.agg (KSe.cs x p).toArray] w fun r w' => ∃ q, r = .returned (.agg (KSe.cs x q).toArray) ∧ NewK KSe w' w.heap.size x q ∧ Below w.heap.size w w' := by
 obtain ⟨s, o, l⟩ := x
 show Calls Tryd.prog 28 #[.agg #[.string s, .bool o, .slice p.b l.length p.c]] w _
 obtain ⟨W, hW⟩ : ∃ W, ((w.alloc (.cells #[.string s, .bool o, .slice p.b l.length p.c] 54)).alloc (.cells #[.string ⟨#[]⟩, .bool false, .slice none 0 0] 39)).alloc (.cells #[.string s, .bool o, .slice none 0 0] 39) = W := ⟨_, rfl⟩
 obtain ⟨hb, hg1, hg2⟩ := three_new w (.cells #[.string s, .bool o, .slice p.b l.length p.c] 54) (.cells #[.string ⟨#[]⟩, .bool false, .slice none 0 0] 39) (.cells #[.string s, .bool o, .slice none 0 0] 39)
 have hsz : w.heap.size + 3 = W.heap.size := by rw [← hW]; simp
 rw [hW] at hb hg1 hg2
 have HC := toEs_any l p.b p.c W (hr.later hb) hz
 have HD := HC.mono (R' := fun r w' => ∃ g, r = .returned (.slice (some ⟨g, 0, none⟩) l.length l.length) ∧ NewX w' (w.heap.size + 3) ⟨0, 0, E0, l⟩ (some ⟨g, 0, none⟩) ∧ Below w.heap.size w w' ∧ w'.heap[w.heap.size + 1]? = some (.cells #[.string ⟨#[]⟩, .bool false, .slice none 0 0] 39 (0, 0)) ∧ w'.heap[w.heap.size + 1 + 1]? = some (.cells #[.string s, .bool o, .slice none 0 0] 39 (0, 0))) (by
  rintro r w' ⟨g, rfl, h1, h2⟩
  exact ⟨_, rfl, h1.lower (by omega), hb.trans (h2.mono (by omega)), (h2.block _ (by omega)).trans hg1, (h2.block _ (by omega)).trans hg2⟩)
 have HH := hide HD
 rw [← hW] at HH
 clear hr hz HC HD hb hg1 hg2 hW hsz W
 generalize hll : l.length = ll at *
 go_enter Tryd.func28, Tryd.ntmps28
 go_wp2_with fail
 refine (uh HH).mono ?_
 rintro r w2 ⟨g, rfl, hrd, hb2, hg1, hg2⟩
 have a0 := Lib.cell_of_heap hg1 0
 have a1 := Lib.cell_of_heap hg1 1
 have a2 := Lib.cell_of_heap hg1 2
 have b0 := Lib.cell_of_heap hg2 0
 have b1 := Lib.cell_of_heap hg2 1
 have b2 := Lib.cell_of_heap hg2 2
 have f0 := Lib.frozen_of_heap hg1 0
 have f1 := Lib.frozen_of_heap hg1 1
 have f2 := Lib.frozen_of_heap hg1 2
 have f4 := Lib.frozen_of_heap hg2 2
 clear HH
 have hg3 : (w2.setCell ⟨w.heap.size + 1 + 1, 2, none⟩ (.slice (some ⟨g, 0, none⟩) ll ll)).heap[w.heap.size + 1]? = _ := (heap_setCell_other w2 ⟨w.heap.size + 1 + 1, 2, none⟩ (w.heap.size + 1) (.slice (some ⟨g, 0, none⟩) ll ll) (by simp)).trans hg1
 have H1 := hide (fun v0 v1 v2 => row3_set hg3 v0 v1 v2)
 have R := hide (fun u v0 v1 v2 => (((hrd.far ⟨w.heap.size + 1 + 1, 2, none⟩ u (by simp)).far ⟨w.heap.size + 1, 0, none⟩ v0 (by simp)).far ⟨w.heap.size + 1, 1, none⟩ v1 (by simp)).far ⟨w.heap.size + 1, 2, none⟩ v2 (by simp))
 have B := hide (fun u v0 v1 v2 => (((hb2.setCell (p := ⟨w.heap.size + 1 + 1, 2, none⟩) (by simp; omega) u).setCell (p := ⟨w.heap.size + 1, 0, none⟩) (by simp) v0).setCell (p := ⟨w.heap.size + 1, 1, none⟩) (by simp) v1).setCell (p := ⟨w.heap.size + 1, 2, none⟩) (by simp) v2)
 clear hrd hb2 hg3
 go_wp2
 refine bodyPost_ret (results_cell_row (P := Tryd.prog) rfl _ _ (w.heap.size + 1) 39 #[.string s, .bool o, .slice (some ⟨g, 0, none⟩) ll ll] (0, 0) _ rfl (uh H1 _ _ _) Tryd.underlying39 rfl (by kernel_rfl)) rfl ?_
 exact ⟨⟨some ⟨g, 0, none⟩, ll⟩, by rw [← hll]; rfl, (uh R _ _ _ _).lower (by omega), uh B _ _ _ _⟩
theorem glob_end {w2 : World} {g o : Nat} {t : TypeId} {z0 z1 z2 z3 z4 : Value} (h : w2.heap[g]? = some (.cells #[z0, z1, z2, z3, z4] t (0, 0))) (ho : g ≠ o) (x1 x2 x3 x4 v0 v1 v2 v3 v4 : Value) : (((((((((w2.setCell ⟨o, 1, none⟩ x1).setCell ⟨o, 2, none⟩ x2).setCell ⟨o, 3, none⟩ x3).setCell ⟨o, 4, none⟩ x4).setCell ⟨g, 0, none⟩ v0).setCell ⟨g, 1, none⟩ v1).setCell ⟨g, 2, none⟩ v2).setCell ⟨g, 3, none⟩ v3).setCell ⟨g, 4, none⟩ v4).heap[g]? = some (.cells #[v0, v1, v2, v3, v4] t (0, 0)) := by
 have h1 := (heap_setCell_other w2 ⟨o, 1, none⟩ g x1 ho).trans h
 have h2 := (heap_setCell_other _ ⟨o, 2, none⟩ g x2 ho).trans h1
 have h3 := (heap_setCell_other _ ⟨o, 3, none⟩ g x3 ho).trans h2
 have h4 := (heap_setCell_other _ ⟨o, 4, none⟩ g x4 ho).trans h3
 exact heap_setCell_same _ g 4 _ t v4 (heap_setCell_same _ g 3 _ t v3 (heap_setCell_same _ g 2 _ t v2 (heap_setCell_same _ g 1 _ t v1 (heap_setCell_same _ g 0 _ t v0 h4))))
theorem NewX.far9 {w : World} {B g o : Nat} {e : Ex} {a : Option Addr} (h : NewX w B e a) (hg : g < B) (ho : o < B) (x1 x2 x3 x4 v0 v1 v2 v3 v4 : Value) : NewX (((((((((w.setCell ⟨o, 1, none⟩ x1).setCell ⟨o, 2, none⟩ x2).setCell ⟨o, 3, none⟩ x3).setCell ⟨o, 4, none⟩ x4).setCell ⟨g, 0, none⟩ v0).setCell ⟨g, 1, none⟩ v1).setCell ⟨g, 2, none⟩ v2).setCell ⟨g, 3, none⟩ v3).setCell ⟨g, 4, none⟩ v4) B e a :=
 ((((((((h.far ⟨o, 1, none⟩ x1 ho).far ⟨o, 2, none⟩ x2 ho).far ⟨o, 3, none⟩ x3 ho).far ⟨o, 4, none⟩ x4 ho).far ⟨g, 0, none⟩ v0 hg).far ⟨g, 1, none⟩ v1 hg).far ⟨g, 2, none⟩ v2 hg).far ⟨g, 3, none⟩ v3 hg).far ⟨g, 4, none⟩ v4 hg
theorem below9 {B g o : Nat} {w0 w : World} (h : Below B w0 w) (hg : B ≤ g) (ho : B ≤ o) (x1 x2 x3 x4 v0 v1 v2 v3 v4 : Value) : Below B w0 (((((((((w.setCell ⟨o, 1, none⟩ x1).setCell ⟨o, 2, none⟩ x2).setCell ⟨o, 3, none⟩ x3).setCell ⟨o, 4, none⟩ x4).setCell ⟨g, 0, none⟩ v0).setCell ⟨g, 1, none⟩ v1).setCell ⟨g, 2, none⟩ v2).setCell ⟨g, 3, none⟩ v3).setCell ⟨g, 4, none⟩ v4) :=
 ((((((((h.setCell (p := ⟨o, 1, none⟩) ho x1).setCell (p := ⟨o, 2, none⟩) ho x2).setCell (p := ⟨o, 3, none⟩) ho x3).setCell (p := ⟨o, 4, none⟩) ho x4).setCell (p := ⟨g, 0, none⟩) hg v0).setCell (p := ⟨g, 1, none⟩) hg v1).setCell (p := ⟨g, 2, none⟩) hg v2).setCell (p := ⟨g, 3, none⟩) hg v3).setCell (p := ⟨g, 4, none⟩) hg v4
theorem toGl_any (x : Gl) (p : Pl) (w : World) (hr : RdX w 0 x.e p.b) (hz : x.e.sz ≤ 1048576) : Calls Tryd.prog 29 #[.agg (KGl.cs x p).toArray] w fun r w' => ∃ q, r = .returned (.agg (KGl.cs x q).toArray) ∧ NewK KGl w' w.heap.size x q ∧ Below w.heap.size w w' := by
 obtain ⟨s, e⟩ := x
 show Calls Tryd.prog 29 #[.agg #[.string s, .int .i64 e.k, .int .i64 e.n, .string e.s, .slice p.b e.l.length p.c]] w _
 obtain ⟨W, hW⟩ : ∃ W, ((w.alloc (.cells #[.string s, .int .i64 e.k, .int .i64 e.n, .string e.s, .slice p.b e.l.length p.c] 59)).alloc (.cells #[.string ⟨#[]⟩, .int .i64 0, .int .i64 0, .string ⟨#[]⟩, .slice none 0 0] 45)).alloc (.cells #[.string s, .int .i64 0, .int .i64 0, .string ⟨#[]⟩, .slice none 0 0] 45) = W := ⟨_, rfl⟩
 obtain ⟨hb, hg1, hg2⟩ := three_new w (.cells #[.string s, .int .i64 e.k, .int .i64 e.n, .string e.s, .slice p.b e.l.length p.c] 59) (.cells #[.string ⟨#[]⟩, .int .i64 0, .int .i64 0, .string ⟨#[]⟩, .slice none 0 0] 45) (.cells #[.string s, .int .i64 0, .int .i64 0, .string ⟨#[]⟩, .slice none 0 0] 45)
 have hsz : w.heap.size + 3 = W.heap.size := by rw [← hW]; simp
 rw [hW] at hb hg1 hg2
 have HC := toX_any e p.b p.c W (hr.later hb) hz
 have HD := HC.mono (R' := fun r w' => ∃ (c : Option Addr) (cap : Nat), r = .returned (.agg (e.cs c cap)) ∧ NewX w' (w.heap.size + 3) e c ∧ Below w.heap.size w w' ∧ w'.heap[w.heap.size + 1]? = some (.cells #[.string ⟨#[]⟩, .int .i64 0, .int .i64 0, .string ⟨#[]⟩, .slice none 0 0] 45 (0, 0)) ∧ w'.heap[w.heap.size + 1 + 1]? = some (.cells #[.string s, .int .i64 0, .int .i64 0, .string ⟨#[]⟩, .slice none 0 0] 45 (0, 0))) (by
  rintro r w' ⟨c, cap, rfl, h1, h2⟩
  exact ⟨c, cap, rfl, h1.lower (by omega), hb.trans (h2.mono (by omega)), (h2.block _ (by omega)).trans hg1, (h2.block _ (by omega)).trans hg2⟩)
 have HH := hide HD
 rw [← hW] at HH
 unfold Ex.cs at HH
 clear hr hz HC HD hb hg1 hg2 hW hsz W
 go_enter Tryd.func29, Tryd.ntmps29
 go_wp2_with fail
 refine (uh HH).mono ?_
 rintro r w2 ⟨g, gc, rfl, hrd, hb2, hg1, hg2⟩
 have a0 := Lib.cell_of_heap hg1 0
 have a1 := Lib.cell_of_heap hg1 1
 have a2 := Lib.cell_of_heap hg1 2
 have a3 := Lib.cell_of_heap hg1 3
 have a4 := Lib.cell_of_heap hg1 4
 have b0 := Lib.cell_of_heap hg2 0
 have b1 := Lib.cell_of_heap hg2 1
 have b2 := Lib.cell_of_heap hg2 2
 have b3 := Lib.cell_of_heap hg2 3
 have b4 := Lib.cell_of_heap hg2 4
 have f0 := Lib.frozen_of_heap hg1 0
 have f1 := Lib.frozen_of_heap hg1 1
 have f2 := Lib.frozen_of_heap hg1 2
 have f3 := Lib.frozen_of_heap hg1 3
 have f4 := Lib.frozen_of_heap hg1 4
 have e1 := Lib.frozen_of_heap hg2 1
 have e2 := Lib.frozen_of_heap hg2 2
 have e3 := Lib.frozen_of_heap hg2 3
 have e4 := Lib.frozen_of_heap hg2 4
 have H1 := hide (fun x1 x2 x3 x4 v0 v1 v2 v3 v4 => glob_end hg1 (o := w.heap.size + 1 + 1) (by omega) x1 x2 x3 x4 v0 v1 v2 v3 v4)
 have R := hide (fun x1 x2 x3 x4 v0 v1 v2 v3 v4 => hrd.far9 (g := w.heap.size + 1) (o := w.heap.size + 1 + 1) (by omega) (by omega) x1 x2 x3 x4 v0 v1 v2 v3 v4)
 have B := hide (fun x1 x2 x3 x4 v0 v1 v2 v3 v4 => below9 hb2 (g := w.heap.size + 1) (o := w.heap.size + 1 + 1) (by omega) (by omega) x1 x2 x3 x4 v0 v1 v2 v3 v4)
 clear HH hg1 hg2 hrd hb2
 go_wp2
 refine bodyPost_ret (results_cell_row (P := Tryd.prog) rfl _ _ (w.heap.size + 1) 45 #[.string s, .int .i64 e.k, .int .i64 e.n, .string e.s, .slice g e.l.length gc] (0, 0) _ rfl (uh H1 _ _ _ _ _ _ _ _ _) Tryd.underlying45 rfl (by kernel_rfl)) rfl ?_
 exact ⟨⟨g, gc⟩, rfl, (uh R _ _ _ _ _ _ _ _ _).lower (by omega), uh B _ _ _ _ _ _ _ _ _⟩
theorem infoKSe : (Tryd.prog.info? 39).map (fun i => (i.zero, i.size, i.bytes)) = some (some (.agg #[.string ⟨#[]⟩, .bool false, .slice none 0 0]), 3, 48) := by kernel_rfl
theorem toSes_any (l : List Se) (a : Option Addr) (cap : Nat) (w : World) (hr : RdV KSe w 0 a l) (hz : ∀ i, i < l.length → (l.getD i KSe.z).e.sz ≤ 1048576) (hl : l.length ≤ 1048576) : Calls Tryd.prog 13 #[.slice a l.length cap] w fun r w' => ∃ g, r = .returned (.slice (some ⟨g, 0, none⟩) l.length l.length) ∧ NewV KSe w' w.heap.size (some ⟨g, 0, none⟩) l ∧ Below w.heap.size w w' := by
 have HR := hide hr
 have HZ := hide hz
 have FN := hide (fun (wr : World) (g : Nat) (Fs : List (List Nat)) (h : DnV KSe w wr g l.length l l.length Fs) => h.done)
 clear hr hz
 obtain ⟨len, hlen⟩ : ∃ len, l.length = len := ⟨_, rfl⟩
 rw [hlen] at hl ⊢
 rw [hlen] at FN
 obtain ⟨i0, hi, hz0, hz1, hz2⟩ := info_parts infoKSe
 obtain ⟨w1, hmk, hown, hgr⟩ := run_make_full (P := Tryd.prog) w w.heap.size 28 39 i0 _ 3 Tryd.underlying28 hi hz0 hz1 .i64 .i64 len (by rw [hz2]; omega) (by unfold maxLen; omega) (Nat.le_refl _)
 have O0 := hide (show DnV KSe w w1 w.heap.size len l 0 [] from dnV_new l hown ((Below.refl w.heap.size w).grown hgr (Nat.le_refl _) (fun k h => by cases h)))
 clear hown hgr
 go_enter Tryd.func13, Tryd.ntmps13
 go_wp2
 clear hmk
 go_loopw [4] (fun i wr => ∃ (k : Nat) (Fs : List (List Nat)), k ≤ len ∧ i = .int .i64 k ∧ DnV KSe w wr w.heap.size len l k Fs) (fun i _ => len - (intOf i).toNat)
 case atStart => exact ⟨0, [], Nat.zero_le _, rfl, uh O0⟩
 case round =>
  clear O0
  obtain ⟨k, Fs, hk, rfl, hd⟩ := hrel
  by_cases hlt : k < len
  ·
   have hkl : k < l.length := by omega
   have hb := hd.bel
   obtain ⟨g, off, rfl, _, hg, ra⟩ := (uh HR).resolve_left (fun e => by rw [e] at hlen; simp at hlen; omega)
   obtain ⟨p, c1, c2⟩ := ra k hkl
   have RG := hide (show wr.rangeAt g (off + k * 3) (KSe.cs (l.getD k KSe.z) p) from fun j u hj => cellb hb (c1 j u hj))
   have HT := hide (toSe_any (l.getD k KSe.z) p wr (Kd.later KSe c2 hb) (uh HZ k hkl))
   have SO := hide (show (Tryd.prog.info? 54).map (·.size) = some (KSe.cs (l.getD k KSe.z) p).length by kernel_rfl)
   have SI := hide (fun q => show (Tryd.prog.info? 39).map (·.size) = some (KSe.cs (l.getD k KSe.z) q).toArray.size by kernel_rfl)
   have CA := hide (fun q => show (KSe.cs (l.getD k KSe.z) q).toArray.all (·.oneCell') = true by kernel_rfl)
   have PT := hide (fun (w2 : World) (q : Pl) (hb2 : Below wr.heap.size wr w2) (hq : NewK KSe w2 wr.heap.size (l.getD k KSe.z) q) => hd.put hlt hb2 q hq)
   have RM := hide (fun (w2 : World) (q : Pl) (hb2 : Below wr.heap.size wr w2) => (show w2.there w.heap.size (k * 3) (KSe.cs (l.getD k KSe.z) q).toArray.size from (hd.later hb2).room hlt (KSe.cs (l.getD k KSe.z) q) (KSe.len _ _)))
   clear ra HR HZ hd hb FN c1 c2
   generalize KSe.cs (l.getD k KSe.z) = f at *
   go_wp2_with ((with_reducible show wpList _ _ _ (⟨_, .load _ _, _, _, _, _⟩ :: _) _ _); refine wpList_load_mid rfl 54 _ rfl g (off + k * 3) rfl (f p) _ (uh RG) Tryd.underlying54 rfl (uh SO) ?_)
   refine (uh HT).mono ?_
   rintro r w2 ⟨q, rfl, hq, hb2⟩
   obtain ⟨F2, hp2⟩ := uh PT w2 q hb2 hq
   have P2 := hide hp2
   have R2 := hide (uh RM w2 q hb2)
   clear hq hb2 PT RM HT RG hp2
   go_wp2_with ((with_reducible show wpList _ _ _ (⟨_, .store _ _ _, _, _, _, _⟩ :: _) _ _); refine wpList_store_mid rfl 39 _ _ rfl w.heap.size (k * 3) (f q).toArray rfl rfl (uh R2) (uh SI q) (uh CA q) ?_)
   go_roundw
   case rel => exact ⟨k + 1, _, by omega, by go_num, uh P2⟩
   case measure => simp [intOf]; omega
  ·
   obtain rfl : k = len := by omega
   have R1 := hide (uh FN wr _ Fs hd)
   have B1 := hide hd.bel
   clear hd
   go_wp2
   go_ret
   exact ⟨_, rfl, uh R1, uh B1⟩
theorem infoKGl : (Tryd.prog.info? 45).map (fun i => (i.zero, i.size, i.bytes)) = some (some (.agg #[.string ⟨#[]⟩, .int .i64 0, .int .i64 0, .string ⟨#[]⟩, .slice none 0 0]), 5, 72) := by kernel_rfl
theorem toGls_any (l : List Gl) (a : Option Addr) (cap : Nat) (w : World) (hr : RdV KGl w 0 a l) (hz : ∀ i, i < l.length → (l.getD i KGl.z).e.sz ≤ 1048576) (hl : l.length ≤ 1048576) : Calls Tryd.prog 14 #[.slice a l.length cap] w fun r w' => ∃ g, r = .returned (.slice (some ⟨g, 0, none⟩) l.length l.length) ∧ NewV KGl w' w.heap.size (some ⟨g, 0, none⟩) l ∧ Below w.heap.size w w' := by
 have HR := hide hr
 have HZ := hide hz
 have FN := hide (fun (wr : World) (g : Nat) (Fs : List (List Nat)) (h : DnV KGl w wr g l.length l l.length Fs) => h.done)
 clear hr hz
 obtain ⟨len, hlen⟩ : ∃ len, l.length = len := ⟨_, rfl⟩
 rw [hlen] at hl ⊢
 rw [hlen] at FN
 obtain ⟨i0, hi, hz0, hz1, hz2⟩ := info_parts infoKGl
 obtain ⟨w1, hmk, hown, hgr⟩ := run_make_full (P := Tryd.prog) w w.heap.size 29 45 i0 _ 5 Tryd.underlying29 hi hz0 hz1 .i64 .i64 len (by rw [hz2]; omega) (by unfold maxLen; omega) (Nat.le_refl _)
 have O0 := hide (show DnV KGl w w1 w.heap.size len l 0 [] from dnV_new l hown ((Below.refl w.heap.size w).grown hgr (Nat.le_refl _) (fun k h => by cases h)))
 clear hown hgr
 go_enter Tryd.func14, Tryd.ntmps14
 go_wp2
 clear hmk
 go_loopw [4] (fun i wr => ∃ (k : Nat) (Fs : List (List Nat)), k ≤ len ∧ i = .int .i64 k ∧ DnV KGl w wr w.heap.size len l k Fs) (fun i _ => len - (intOf i).toNat)
 case atStart => exact ⟨0, [], Nat.zero_le _, rfl, uh O0⟩
 case round =>
  clear O0
  obtain ⟨k, Fs, hk, rfl, hd⟩ := hrel
  by_cases hlt : k < len
  ·
   have hkl : k < l.length := by omega
   have hb := hd.bel
   obtain ⟨g, off, rfl, _, hg, ra⟩ := (uh HR).resolve_left (fun e => by rw [e] at hlen; simp at hlen; omega)
   obtain ⟨p, c1, c2⟩ := ra k hkl
   have RG := hide (show wr.rangeAt g (off + k * 5) (KGl.cs (l.getD k KGl.z) p) from fun j u hj => cellb hb (c1 j u hj))
   have HT := hide (toGl_any (l.getD k KGl.z) p wr (Kd.later KGl c2 hb) (uh HZ k hkl))
   have SO := hide (show (Tryd.prog.info? 59).map (·.size) = some (KGl.cs (l.getD k KGl.z) p).length by kernel_rfl)
   have SI := hide (fun q => show (Tryd.prog.info? 45).map (·.size) = some (KGl.cs (l.getD k KGl.z) q).toArray.size by kernel_rfl)
   have CA := hide (fun q => show (KGl.cs (l.getD k KGl.z) q).toArray.all (·.oneCell') = true by kernel_rfl)
   have PT := hide (fun (w2 : World) (q : Pl) (hb2 : Below wr.heap.size wr w2) (hq : NewK KGl w2 wr.heap.size (l.getD k KGl.z) q) => hd.put hlt hb2 q hq)
   have RM := hide (fun (w2 : World) (q : Pl) (hb2 : Below wr.heap.size wr w2) => (show w2.there w.heap.size (k * 5) (KGl.cs (l.getD k KGl.z) q).toArray.size from (hd.later hb2).room hlt (KGl.cs (l.getD k KGl.z) q) (KGl.len _ _)))
   clear ra HR HZ hd hb FN c1 c2
   generalize KGl.cs (l.getD k KGl.z) = f at *
   go_wp2_with ((with_reducible show wpList _ _ _ (⟨_, .load _ _, _, _, _, _⟩ :: _) _ _); refine wpList_load_mid rfl 59 _ rfl g (off + k * 5) rfl (f p) _ (uh RG) Tryd.underlying59 rfl (uh SO) ?_)
   refine (uh HT).mono ?_
   rintro r w2 ⟨q, rfl, hq, hb2⟩
   obtain ⟨F2, hp2⟩ := uh PT w2 q hb2 hq
   have P2 := hide hp2
   have R2 := hide (uh RM w2 q hb2)
   clear hq hb2 PT RM HT RG hp2
   go_wp2_with ((with_reducible show wpList _ _ _ (⟨_, .store _ _ _, _, _, _, _⟩ :: _) _ _); refine wpList_store_mid rfl 45 _ _ rfl w.heap.size (k * 5) (f q).toArray rfl rfl (uh R2) (uh SI q) (uh CA q) ?_)
   go_roundw
   case rel => exact ⟨k + 1, _, by omega, by go_num, uh P2⟩
   case measure => simp [intOf]; omega
  ·
   obtain rfl : k = len := by omega
   have R1 := hide (uh FN wr _ Fs hd)
   have B1 := hide hd.bel
   clear hd
   go_wp2
   go_ret
   exact ⟨_, rfl, uh R1, uh B1⟩
structure Ob.small (x : Ob) : Prop where
 s : ∀ i, i < x.ss.length → (x.ss.getD i KSe.z).e.sz ≤ 1048576
 g : ∀ i, i < x.gs.length → (x.gs.getD i KGl.z).e.sz ≤ 1048576
 ns : x.ss.length ≤ 1048576
 ng : x.gs.length ≤ 1048576
theorem Ob.small_of {x : Ob} (h : x.zz ≤ 1048576) : x.small := by
 have h0 : sumV Se.zz x.ss + sumV Gl.zz x.gs ≤ 1048576 := h
 unfold sumV at h0
 refine ⟨fun i hi => ?_, fun i hi => ?_, by omega, by omega⟩
 ·
  have h1 : (x.ss.getD i KSe.z).zz ≤ _ := sum_at Se.zz KSe.z x.ss i hi
  have h2 : (x.ss.getD i KSe.z).zz = (x.ss.getD i KSe.z).s.size + ((x.ss.getD i KSe.z).l.length + szX (x.ss.getD i KSe.z).l) := rfl
  have h3 : (x.ss.getD i KSe.z).e.sz = E0.size + (x.ss.getD i KSe.z).l.length + szX (x.ss.getD i KSe.z).l := sz_is _
  have h4 : E0.size = 0 := rfl
  omega
 ·
  have h1 : (x.gs.getD i KGl.z).zz ≤ _ := sum_at Gl.zz KGl.z x.gs i hi
  have h2 : (x.gs.getD i KGl.z).zz = (x.gs.getD i KGl.z).s.size + (x.gs.getD i KGl.z).e.sz := rfl
  omega
theorem row2_set {w : World} {g : Nat} {u0 u1 : Value} {t : TypeId} (h : w.heap[g]? = some (.cells #[u0, u1] t (0, 0))) (v0 v1 : Value) : ((w.setCell ⟨g, 0, none⟩ v0).setCell ⟨g, 1, none⟩ v1).heap[g]? = some (.cells #[v0, v1] t (0, 0)) :=
 heap_setCell_same _ g 1 _ t v1 (heap_setCell_same w g 0 _ t v0 h)
theorem NewV.far {α κ : Type} {K : Kd α κ} {w : World} {B : Nat} {a : Option Addr} {l : List α} (h : NewV K w B a l) (p : Addr) (v : Value) (hp : p.block < B) : NewV K (w.setCell p v) B a l := by
 obtain ⟨F, h1, h2, h3⟩ := h
 exact ⟨F, h1.keep fun b hb => heap_setCell_other w p b v (by have := h3 b hb; omega), h2, h3⟩
theorem toOb_any (x : Ob) (p : Po) (w : World) (hr : KOb.rd w 0 x p) (hz : x.small) : Calls Tryd.prog 6 #[.agg (KOb.cs x p).toArray] w fun r w' => ∃ q, r = .returned (.agg (KOb.cs x q).toArray) ∧ NewK KOb w' w.heap.size x q ∧ Below w.heap.size w w' := by
 show Calls Tryd.prog 6 #[.agg #[.slice p.a.b x.ss.length p.a.c, .slice p.b.b x.gs.length p.b.c]] w _
 obtain ⟨W, hW⟩ : ∃ W, ((w.alloc (.cells #[.slice p.a.b x.ss.length p.a.c, .slice p.b.b x.gs.length p.b.c] 25)).alloc (.cells #[.slice none 0 0, .slice none 0 0] 31)).alloc (.cells #[.slice none 0 0, .slice none 0 0] 31) = W := ⟨_, rfl⟩
 obtain ⟨hb, hg1, hg2⟩ := three_new w (.cells #[.slice p.a.b x.ss.length p.a.c, .slice p.b.b x.gs.length p.b.c] 25) (.cells #[.slice none 0 0, .slice none 0 0] 31) (.cells #[.slice none 0 0, .slice none 0 0] 31)
 have hg0 : W.heap[w.heap.size]? = some (.cells #[.slice p.a.b x.ss.length p.a.c, .slice p.b.b x.gs.length p.b.c] 25 (0, 0)) := by
  rw [← hW]
  exact (((Below.refl _ _).alloc (Nat.le_refl _) _).block w.heap.size (by simp; omega)).trans ((((Below.refl _ _).alloc (Nat.le_refl _) _).block w.heap.size (by simp)).trans (heap_alloc_new w _))
 have hsz : w.heap.size + 3 = W.heap.size := by rw [← hW]; simp
 rw [hW] at hb hg1 hg2
 have HC := toSes_any x.ss p.a.b p.a.c W (hr.1.later hb) hz.s hz.ns
 have HD := HC.mono (R' := fun r w' => ∃ g, r = .returned (.slice (some ⟨g, 0, none⟩) x.ss.length x.ss.length) ∧ NewV KSe w' (w.heap.size + 3) (some ⟨g, 0, none⟩) x.ss ∧ Below w.heap.size w w' ∧ w'.heap[w.heap.size]? = some (.cells #[.slice p.a.b x.ss.length p.a.c, .slice p.b.b x.gs.length p.b.c] 25 (0, 0)) ∧ w'.heap[w.heap.size + 1]? = some (.cells #[.slice none 0 0, .slice none 0 0] 31 (0, 0)) ∧ w'.heap[w.heap.size + 1 + 1]? = some (.cells #[.slice none 0 0, .slice none 0 0] 31 (0, 0)) ∧ w.heap.size + 3 ≤ w'.heap.size) (by
  rintro r w' ⟨g, rfl, h1, h2⟩
  exact ⟨g, rfl, h1.lower (by omega), hb.trans (h2.mono (by omega)), (h2.block _ (by omega)).trans hg0, (h2.block _ (by omega)).trans hg1, (h2.block _ (by omega)).trans hg2, by have := h2.size; omega⟩)
 have HH := hide HD
 rw [← hW] at HH
 have HG := hide (fun (wr : World) (hb : Below w.heap.size w wr) => toGls_any x.gs p.b.b p.b.c wr (hr.2.later hb) hz.g hz.ng)
 clear hr hz HC HD hb hg0 hg1 hg2 hW hsz W
 go_enter Tryd.func6, Tryd.ntmps6
 go_wp2_with fail
 refine (uh HH).mono ?_
 rintro r w2 ⟨g, rfl, hn2, hb2, hg0, hg1, hg2, hs2⟩
 have a1 := Lib.cell_of_heap hg0 1
 have b0 := Lib.cell_of_heap hg2 0
 have e0 := Lib.frozen_of_heap hg2 0
 obtain ⟨W2, hW2⟩ : ∃ W2, w2.setCell ⟨w.heap.size + 1 + 1, 0, none⟩ (.slice (some ⟨g, 0, none⟩) x.ss.length x.ss.length) = W2 := ⟨_, rfl⟩
 have k2 : W2.heap.size = w2.heap.size := by rw [← hW2]; simp
 have kb2 : Below w.heap.size w W2 := by rw [← hW2]; exact hb2.setCell (p := ⟨w.heap.size + 1 + 1, 0, none⟩) (by show w.heap.size ≤ w.heap.size + 1 + 1; omega) _
 have kn2 : NewV KSe W2 (w.heap.size + 3) (some ⟨g, 0, none⟩) x.ss := by rw [← hW2]; exact hn2.far _ _ (by show w.heap.size + 1 + 1 < _; omega)
 have kg1 : W2.heap[w.heap.size + 1]? = some (.cells #[.slice none 0 0, .slice none 0 0] 31 (0, 0)) := by rw [← hW2]; exact (heap_setCell_other _ _ _ _ (by show w.heap.size + 1 ≠ w.heap.size + 1 + 1; omega)).trans hg1
 have kg2 : W2.heap[w.heap.size + 1 + 1]? = some (.cells #[.slice (some ⟨g, 0, none⟩) x.ss.length x.ss.length, .slice none 0 0] 31 (0, 0)) := by rw [← hW2]; exact heap_setCell_same _ _ 0 _ _ _ hg2
 have HG2 := hide ((uh HG W2 kb2).mono (R' := fun r w' => ∃ h, r = .returned (.slice (some ⟨h, 0, none⟩) x.gs.length x.gs.length) ∧ Below w.heap.size w w' ∧ (∃ F1 F2, OwV KSe w' (some ⟨g, 0, none⟩) x.ss F1 ∧ OwV KGl w' (some ⟨h, 0, none⟩) x.gs F2 ∧ (F1 ++ F2).Nodup ∧ ∀ b ∈ F1 ++ F2, w.heap.size + 3 ≤ b) ∧ w'.heap[w.heap.size + 1]? = some (.cells #[.slice none 0 0, .slice none 0 0] 31 (0, 0)) ∧ w'.heap[w.heap.size + 1 + 1]? = some (.cells #[.slice (some ⟨g, 0, none⟩) x.ss.length x.ss.length, .slice none 0 0] 31 (0, 0))) (by
  rintro r w3 ⟨h, rfl, n3, b3⟩
  obtain ⟨F1, p1, p2, p3⟩ := kn2
  obtain ⟨F2, q1, q2, q3⟩ := n3
  have p1' := p1.later b3
  have nd := nodup_snoc p2 q2 (fun x hx => p1.lt x hx) q3
  have ge : ∀ b ∈ F1 ++ F2, w.heap.size + 3 ≤ b := fun b hb => by
   rcases List.mem_append.1 hb with hb | hb
   · exact p3 b hb
   · have := q3 b hb; omega
  exact ⟨h, rfl, kb2.trans (b3.mono (by have := kb2.size; omega)), ⟨F1, F2, p1', q1, nd, ge⟩, (b3.block _ (by omega)).trans kg1, (b3.block _ (by omega)).trans kg2⟩))
 rw [← hW2] at HG2
 clear HH hn2 hb2 hg0 hg1 hg2 hs2 hW2 k2 kb2 kn2 kg1 kg2 HG
 go_wp2_with fail
 refine (uh HG2).mono ?_
 rintro r w3 ⟨h, rfl, hb3, ⟨F1, F2, o1, o2, nd, ge⟩, hg1, hg2⟩
 have a0 := Lib.cell_of_heap hg1 0
 have a2 := Lib.cell_of_heap hg1 1
 have b1 := Lib.cell_of_heap hg2 0
 have b2 := Lib.cell_of_heap hg2 1
 have f0 := Lib.frozen_of_heap hg1 0
 have f1 := Lib.frozen_of_heap hg1 1
 have e1 := Lib.frozen_of_heap hg2 1
 have hg3 : ∀ u, (w3.setCell ⟨w.heap.size + 1 + 1, 1, none⟩ u).heap[w.heap.size + 1]? = _ := fun u => (heap_setCell_other w3 ⟨w.heap.size + 1 + 1, 1, none⟩ (w.heap.size + 1) u (by simp)).trans hg1
 have H1 := hide (fun u v0 v1 => row2_set (hg3 u) v0 v1)
 have R := hide (fun u v0 v1 => (show NewK KOb (((w3.setCell ⟨w.heap.size + 1 + 1, 1, none⟩ u).setCell ⟨w.heap.size + 1, 0, none⟩ v0).setCell ⟨w.heap.size + 1, 1, none⟩ v1) w.heap.size x ⟨⟨some ⟨g, 0, none⟩, x.ss.length⟩, ⟨some ⟨h, 0, none⟩, x.gs.length⟩⟩ from by
  have kp : ∀ b ∈ F1 ++ F2, (((w3.setCell ⟨w.heap.size + 1 + 1, 1, none⟩ u).setCell ⟨w.heap.size + 1, 0, none⟩ v0).setCell ⟨w.heap.size + 1, 1, none⟩ v1).heap[b]? = w3.heap[b]? := fun b hb => by
   have := ge b hb
   exact (heap_setCell_other _ _ _ _ (by show b ≠ w.heap.size + 1; omega)).trans ((heap_setCell_other _ _ _ _ (by show b ≠ w.heap.size + 1; omega)).trans (heap_setCell_other _ _ _ _ (by show b ≠ w.heap.size + 1 + 1; omega)))
  exact ⟨F1 ++ F2, ⟨F1, F2, rfl, o1.keep fun b hb => kp b (List.mem_append_left _ hb), o2.keep fun b hb => kp b (List.mem_append_right _ hb)⟩, nd, fun b hb => by have := ge b hb; omega⟩))
 have B := hide (fun u v0 v1 => ((hb3.setCell (p := ⟨w.heap.size + 1 + 1, 1, none⟩) (by show w.heap.size ≤ w.heap.size + 1 + 1; omega) u).setCell (p := ⟨w.heap.size + 1, 0, none⟩) (by show w.heap.size ≤ w.heap.size + 1; omega) v0).setCell (p := ⟨w.heap.size + 1, 1, none⟩) (by show w.heap.size ≤ w.heap.size + 1; omega) v1)
 clear hb3 hg3 o1 o2 nd ge hg1 hg2 HG2
 go_wp2
 refine bodyPost_ret (results_cell_row (P := Tryd.prog) rfl _ _ (w.heap.size + 1) 31 #[.slice (some ⟨g, 0, none⟩) x.ss.length x.ss.length, .slice (some ⟨h, 0, none⟩) x.gs.length x.gs.length] (0, 0) _ rfl (uh H1 _ _ _) Tryd.underlying31 rfl (by kernel_rfl)) rfl ?_
 exact ⟨_, rfl, uh R _ _ _, uh B _ _ _⟩
theorem eqEs_same (l : List Ex) (a b : Option Addr) (c1 c2 : Nat) (w : World) (h1 : RdX w 0 ⟨0, 0, E0, l⟩ a) (h2 : RdX w 0 ⟨0, 0, E0, l⟩ b) (hz : (Ex.mk 0 0 E0 l).sz ≤ 1048576) : Calls Tryd.prog 52 #[.slice a l.length c1, .slice b l.length c2] w fun r w' => r = .returned (.bool true) ∧ Below w.heap.size w w' :=
 eqXS_of ⟨0, 0, E0, l⟩ (fun i _ => eqX_same _) a b c1 c2 w h1 h2 hz
theorem two_newO (w : World) (o1 o2 : Obj) : Below w.heap.size w ((w.alloc o1).alloc o2) ∧ ((w.alloc o1).alloc o2).heap[w.heap.size]? = some o1 ∧ ((w.alloc o1).alloc o2).heap[w.heap.size + 1]? = some o2 := by
 have h1 : (w.alloc o1).heap.size = w.heap.size + 1 := by simp
 refine ⟨((Below.refl _ _).alloc (Nat.le_refl _) _).alloc (by simp) _, ?_, ?_⟩
 · exact ((Below.refl (w.alloc o1).heap.size _).alloc (Nat.le_refl _) o2).block _ (by simp) |>.trans (heap_alloc_new w o1)
 · rw [← h1]; exact Array.getElem?_push_size
theorem eqSe_same (x : Se) (p q : Pl) (w : World) (h1 : RdX w 0 x.e p.b) (h2 : RdX w 0 x.e q.b) (hz : x.e.sz ≤ 1048576) : Calls Tryd.prog 33 #[.agg (KSe.cs x p).toArray, .agg (KSe.cs x q).toArray] w fun r w' => r = .returned (.bool true) ∧ Below w.heap.size w w' := by
 show Calls Tryd.prog 33 #[.agg #[.string x.s, .bool x.o, .slice p.b x.l.length p.c], .agg #[.string x.s, .bool x.o, .slice q.b x.l.length q.c]] w _
 have hbW : Below w.heap.size w ((w.alloc (.cells #[.string x.s, .bool x.o, .slice p.b x.l.length p.c] 39)).alloc (.cells #[.string x.s, .bool x.o, .slice q.b x.l.length q.c] 39)) := (two_newO w _ _).1
 have HZ := eqEs_same x.l p.b q.b p.c q.c _ (h1.later hbW) (h2.later hbW) hz
 have HS := hide (HZ.mono (R' := fun r w' => r = .returned (.bool true) ∧ Below w.heap.size w w') (by rintro r w' ⟨rfl, h⟩; exact ⟨rfl, hbW.trans (h.mono hbW.size)⟩))
 clear h1 h2 hz HZ hbW
 go_enter Tryd.func33, Tryd.ntmps33
 go_wp2_with (go_at_call 52; refine (uh HS).mono ?_; rintro e w1 ⟨rfl, hb1⟩)
 go_ret
 exact ⟨rfl, hb1⟩
theorem eqGl_same (x : Gl) (p q : Pl) (w : World) (h1 : RdX w 0 x.e p.b) (h2 : RdX w 0 x.e q.b) (hz : x.e.sz ≤ 1048576) : Calls Tryd.prog 34 #[.agg (KGl.cs x p).toArray, .agg (KGl.cs x q).toArray] w fun r w' => r = .returned (.bool true) ∧ Below w.heap.size w w' := by
 show Calls Tryd.prog 34 #[.agg #[.string x.s, .int .i64 x.e.k, .int .i64 x.e.n, .string x.e.s, .slice p.b x.e.l.length p.c], .agg #[.string x.s, .int .i64 x.e.k, .int .i64 x.e.n, .string x.e.s, .slice q.b x.e.l.length q.c]] w _
 have hbW : Below w.heap.size w ((w.alloc (.cells #[.string x.s, .int .i64 x.e.k, .int .i64 x.e.n, .string x.e.s, .slice p.b x.e.l.length p.c] 45)).alloc (.cells #[.string x.s, .int .i64 x.e.k, .int .i64 x.e.n, .string x.e.s, .slice q.b x.e.l.length q.c] 45)) := (two_newO w _ _).1
 have HZ := eqX_same x.e p.b q.b p.c q.c _ (h1.later hbW) (h2.later hbW) hz
 have HS := hide (HZ.mono (R' := fun r w' => r = .returned (.bool true) ∧ Below w.heap.size w w') (by rintro r w' ⟨rfl, h⟩; exact ⟨rfl, hbW.trans (h.mono hbW.size)⟩))
 unfold Ex.cs at HS
 clear h1 h2 hz HZ hbW
 go_enter Tryd.func34, Tryd.ntmps34
 go_wp2_with (go_at_call 53; refine (uh HS).mono ?_; rintro e w1 ⟨rfl, hb1⟩)
 go_ret
 exact ⟨rfl, hb1⟩
theorem eqSes_same (l : List Se) (a b : Option Addr) (c1 c2 : Nat) (w : World) (ha : RdV KSe w 0 a l) (hb : RdV KSe w 0 b l) (hz : ∀ i, i < l.length → (l.getD i KSe.z).e.sz ≤ 1048576) (hl : l.length ≤ 1099511627776) : Calls Tryd.prog 17 #[.slice a l.length c1, .slice b l.length c2] w fun r w' => r = .returned (.bool true) ∧ Below w.heap.size w w' := by
 have HA := hide ha
 have HB := hide hb
 have HZ := hide hz
 clear ha hb hz
 obtain ⟨n, hn⟩ : ∃ n, l.length = n := ⟨_, rfl⟩
 rw [hn] at hl ⊢
 go_enter Tryd.func17, Tryd.ntmps17
 go_wp2
 go_loopw [5] (fun iv wr => ∃ (i : Nat) (y : Sub w.heap.size w), i ≤ n ∧ iv = .int .i64 i ∧ wr = y.w) (fun iv _ => n - (intOf iv).toNat)
 case atStart => exact ⟨0, ⟨w, Below.refl _ _⟩, Nat.zero_le _, rfl, rfl⟩
 case round =>
  obtain ⟨i, x, hi, rfl, rfl⟩ := hrel
  by_cases hln : i < n
  ·
   have hlt : i < l.length := by omega
   have c1 : (i : Int) < (n : Int) := by omega
   obtain ⟨ga, offa, rfl, _, hga, h1⟩ := (uh HA).resolve_left (fun e => by rw [e] at hn; simp at hn; omega)
   obtain ⟨gb, offb, rfl, _, hgb, k1⟩ := (uh HB).resolve_left (fun e => by rw [e] at hn; simp at hn; omega)
   obtain ⟨p, ra, ra2⟩ := h1 i hlt
   obtain ⟨q, rb, rb2⟩ := k1 i hlt
   have d0 : ∀ y : Sub w.heap.size w, y.w.cell? ⟨ga, offa + i * 3, none⟩ = _ := fun y => cellb y.h (ra 0 _ rfl)
   have f0 : ∀ y : Sub w.heap.size w, y.w.cell? ⟨gb, offb + i * 3, none⟩ = _ := fun y => cellb y.h (rb 0 _ rfl)
   have d1 : ∀ y : Sub w.heap.size w, y.w.cell? ⟨ga, offa + i * 3 + 1, none⟩ = _ := fun y => cellb y.h (ra 1 _ rfl)
   have f1 : ∀ y : Sub w.heap.size w, y.w.cell? ⟨gb, offb + i * 3 + 1, none⟩ = _ := fun y => cellb y.h (rb 1 _ rfl)
   have d2 : ∀ y : Sub w.heap.size w, y.w.cell? ⟨ga, offa + i * 3 + 2, none⟩ = _ := fun y => cellb y.h (ra 2 _ rfl)
   have f2 : ∀ y : Sub w.heap.size w, y.w.cell? ⟨gb, offb + i * 3 + 2, none⟩ = _ := fun y => cellb y.h (rb 2 _ rfl)
   have HE := hide (show ∀ y : Sub w.heap.size w, Calls Tryd.prog 33 #[.agg #[.string (l.getD i KSe.z).s, .bool (l.getD i KSe.z).o, .slice p.b (l.getD i KSe.z).l.length p.c], .agg #[.string (l.getD i KSe.z).s, .bool (l.getD i KSe.z).o, .slice q.b (l.getD i KSe.z).l.length q.c]] y.w (fun r w' => r = .returned (.bool true) ∧ Below y.w.heap.size y.w w') from fun y => eqSe_same (l.getD i KSe.z) p q y.w (Kd.later KSe ra2 y.h) (Kd.later KSe rb2 y.h) (uh HZ i hlt))
   have ne := Sub.ne w.heap.size w
   have HQ := hide (Nat.le_refl w.heap.size)
   clear h1 k1 ra rb ra2 rb2 HA HB HZ hlt hn
   generalize l.getD i KSe.z = X at *
   go_wp2_with fail
   refine wp_region_sub x (by kernel_rfl) (by kernel_rfl) ?_
   repeat (go_big_quiet_step (first | (go_at_call 33; exact Sub.call (uh HQ) (uh HE _))))
   refine wpQuiet_nil ?_
   intro y
   go_wp2
   go_roundw
   case rel => exact ⟨i + 1, y, by omega, by go_num, rfl⟩
   case measure => simp [intOf]; omega
  ·
   have c1 : ¬ (i : Int) < (n : Int) := by omega
   go_wp2
   go_ret
   exact ⟨rfl, x.h⟩
theorem eqGls_same (l : List Gl) (a b : Option Addr) (c1 c2 : Nat) (w : World) (ha : RdV KGl w 0 a l) (hb : RdV KGl w 0 b l) (hz : ∀ i, i < l.length → (l.getD i KGl.z).e.sz ≤ 1048576) (hl : l.length ≤ 1099511627776) : Calls Tryd.prog 18 #[.slice a l.length c1, .slice b l.length c2] w fun r w' => r = .returned (.bool true) ∧ Below w.heap.size w w' := by
 have HA := hide ha
 have HB := hide hb
 have HZ := hide hz
 clear ha hb hz
 obtain ⟨n, hn⟩ : ∃ n, l.length = n := ⟨_, rfl⟩
 rw [hn] at hl ⊢
 go_enter Tryd.func18, Tryd.ntmps18
 go_wp2
 go_loopw [5] (fun iv wr => ∃ (i : Nat) (y : Sub w.heap.size w), i ≤ n ∧ iv = .int .i64 i ∧ wr = y.w) (fun iv _ => n - (intOf iv).toNat)
 case atStart => exact ⟨0, ⟨w, Below.refl _ _⟩, Nat.zero_le _, rfl, rfl⟩
 case round =>
  obtain ⟨i, x, hi, rfl, rfl⟩ := hrel
  by_cases hln : i < n
  ·
   have hlt : i < l.length := by omega
   have c1 : (i : Int) < (n : Int) := by omega
   obtain ⟨ga, offa, rfl, _, hga, h1⟩ := (uh HA).resolve_left (fun e => by rw [e] at hn; simp at hn; omega)
   obtain ⟨gb, offb, rfl, _, hgb, k1⟩ := (uh HB).resolve_left (fun e => by rw [e] at hn; simp at hn; omega)
   obtain ⟨p, ra, ra2⟩ := h1 i hlt
   obtain ⟨q, rb, rb2⟩ := k1 i hlt
   have d0 : ∀ y : Sub w.heap.size w, y.w.cell? ⟨ga, offa + i * 5, none⟩ = _ := fun y => cellb y.h (ra 0 _ rfl)
   have f0 : ∀ y : Sub w.heap.size w, y.w.cell? ⟨gb, offb + i * 5, none⟩ = _ := fun y => cellb y.h (rb 0 _ rfl)
   have d1 : ∀ y : Sub w.heap.size w, y.w.cell? ⟨ga, offa + i * 5 + 1, none⟩ = _ := fun y => cellb y.h (ra 1 _ rfl)
   have f1 : ∀ y : Sub w.heap.size w, y.w.cell? ⟨gb, offb + i * 5 + 1, none⟩ = _ := fun y => cellb y.h (rb 1 _ rfl)
   have d2 : ∀ y : Sub w.heap.size w, y.w.cell? ⟨ga, offa + i * 5 + 2, none⟩ = _ := fun y => cellb y.h (ra 2 _ rfl)
   have f2 : ∀ y : Sub w.heap.size w, y.w.cell? ⟨gb, offb + i * 5 + 2, none⟩ = _ := fun y => cellb y.h (rb 2 _ rfl)
   have d3 : ∀ y : Sub w.heap.size w, y.w.cell? ⟨ga, offa + i * 5 + 3, none⟩ = _ := fun y => cellb y.h (ra 3 _ rfl)
   have f3 : ∀ y : Sub w.heap.size w, y.w.cell? ⟨gb, offb + i * 5 + 3, none⟩ = _ := fun y => cellb y.h (rb 3 _ rfl)
   have d4 : ∀ y : Sub w.heap.size w, y.w.cell? ⟨ga, offa + i * 5 + 4, none⟩ = _ := fun y => cellb y.h (ra 4 _ rfl)
   have f4 : ∀ y : Sub w.heap.size w, y.w.cell? ⟨gb, offb + i * 5 + 4, none⟩ = _ := fun y => cellb y.h (rb 4 _ rfl)
   have HE := hide (show ∀ y : Sub w.heap.size w, Calls Tryd.prog 34 #[.agg #[.string (l.getD i KGl.z).s, .int .i64 (l.getD i KGl.z).e.k, .int .i64 (l.getD i KGl.z).e.n, .string (l.getD i KGl.z).e.s, .slice p.b (l.getD i KGl.z).e.l.length p.c], .agg #[.string (l.getD i KGl.z).s, .int .i64 (l.getD i KGl.z).e.k, .int .i64 (l.getD i KGl.z).e.n, .string (l.getD i KGl.z).e.s, .slice q.b (l.getD i KGl.z).e.l.length q.c]] y.w (fun r w' => r = .returned (.bool true) ∧ Below y.w.heap.size y.w w') from fun y => eqGl_same (l.getD i KGl.z) p q y.w (Kd.later KGl ra2 y.h) (Kd.later KGl rb2 y.h) (uh HZ i hlt))
   have ne := Sub.ne w.heap.size w
   have HQ := hide (Nat.le_refl w.heap.size)
   clear h1 k1 ra rb ra2 rb2 HA HB HZ hlt hn
   generalize l.getD i KGl.z = X at *
   go_wp2_with fail
   refine wp_region_sub x (by kernel_rfl) (by kernel_rfl) ?_
   repeat (go_big_quiet_step (first | (go_at_call 34; exact Sub.call (uh HQ) (uh HE _))))
   refine wpQuiet_nil ?_
   intro y
   go_wp2
   go_roundw
   case rel => exact ⟨i + 1, y, by omega, by go_num, rfl⟩
   case measure => simp [intOf]; omega
  ·
   have c1 : ¬ (i : Int) < (n : Int) := by omega
   go_wp2
   go_ret
   exact ⟨rfl, x.h⟩
theorem eqOb_same (x : Ob) (p q : Po) (w : World) (h1 : KOb.rd w 0 x p) (h2 : KOb.rd w 0 x q) (hz : x.small) : Calls Tryd.prog 8 #[.agg (KOb.cs x p).toArray, .agg (KOb.cs x q).toArray] w fun r w' => r = .returned (.bool true) ∧ Below w.heap.size w w' := by
 show Calls Tryd.prog 8 #[.agg #[.slice p.a.b x.ss.length p.a.c, .slice p.b.b x.gs.length p.b.c], .agg #[.slice q.a.b x.ss.length q.a.c, .slice q.b.b x.gs.length q.b.c]] w _
 obtain ⟨hbW, g1, g2⟩ := two_newO w (.cells #[.slice p.a.b x.ss.length p.a.c, .slice p.b.b x.gs.length p.b.c] 31) (.cells #[.slice q.a.b x.ss.length q.a.c, .slice q.b.b x.gs.length q.b.c] 31)
 have HZ := eqSes_same x.ss p.a.b q.a.b p.a.c q.a.c _ (h1.1.later hbW) (h2.1.later hbW) hz.s (Nat.le_trans hz.ns (by decide))
 have HS := hide (HZ.mono (R' := fun r w' => r = .returned (.bool true) ∧ Below w.heap.size w w' ∧ w'.heap[w.heap.size]? = some (.cells #[.slice p.a.b x.ss.length p.a.c, .slice p.b.b x.gs.length p.b.c] 31 (0, 0)) ∧ w'.heap[w.heap.size + 1]? = some (.cells #[.slice q.a.b x.ss.length q.a.c, .slice q.b.b x.gs.length q.b.c] 31 (0, 0))) (by rintro r w' ⟨rfl, h⟩; exact ⟨rfl, hbW.trans (h.mono hbW.size), (h.block _ (by simp; omega)).trans g1, (h.block _ (by simp)).trans g2⟩))
 have HG := hide (fun (wr : World) (hb : Below w.heap.size w wr) => eqGls_same x.gs p.b.b q.b.b p.b.c q.b.c wr (h1.2.later hb) (h2.2.later hb) hz.g (Nat.le_trans hz.ng (by decide)))
 clear h1 h2 hz HZ hbW g1 g2
 go_enter Tryd.func8, Tryd.ntmps8
 go_wp2_with (go_at_call 17; refine (uh HS).mono ?_; rintro e w1 ⟨rfl, hb1, g1, g2⟩; have a1 := Lib.cell_of_heap g1 1; have a2 := Lib.cell_of_heap g2 1; have B1 := hide hb1; have HG1 := hide (uh HG w1 hb1); clear hb1 g1 g2 HS HG)
 go_wp2_with (go_at_call 18; refine (uh HG1).mono ?_; rintro e w2 ⟨rfl, hb2⟩)
 go_ret
 exact ⟨rfl, (uh B1).trans (hb2.mono (uh B1).size)⟩
def okSe (l : List Se) (i : Nat) : Bool := (List.range i).all (fun k => !((l.getD k KSe.z).s.toList == (l.getD i KSe.z).s.toList)) && (nameB (l.getD i KSe.z).s && (decide ((l.getD i KSe.z).l.length ≤ 256) && (l.getD i KSe.z).l.all (rgtB (l.length : Nat))))
theorem okSe_no1 {l : List Se} {i k : Nat} (hk : k < i) (h : ((l.getD k KSe.z).s.toList == (l.getD i KSe.z).s.toList) = true) : okSe l i = false := by
 have e : (List.range i).all (fun k => !((l.getD k KSe.z).s.toList == (l.getD i KSe.z).s.toList)) = false := by
  rw [List.all_eq_false]
  exact ⟨k, List.mem_range.2 hk, by rw [h]; decide⟩
 unfold okSe
 rw [e, Bool.false_and]
theorem okSe_nm {l : List Se} {i : Nat} (h : ∀ k, k < i → ((l.getD k KSe.z).s.toList == (l.getD i KSe.z).s.toList) = false) : okSe l i = (nameB (l.getD i KSe.z).s && (decide ((l.getD i KSe.z).l.length ≤ 256) && (l.getD i KSe.z).l.all (rgtB (l.length : Nat)))) := by
 have e : (List.range i).all (fun k => !((l.getD k KSe.z).s.toList == (l.getD i KSe.z).s.toList)) = true := by
  rw [List.all_eq_true]
  intro k hk
  rw [h k (List.mem_range.1 hk)]
  rfl
 unfold okSe
 rw [e, Bool.true_and]
def okGl (n : Nat) (l : List Gl) (i : Nat) : Bool := nameB (l.getD i KGl.z).s && (rgtB (n : Nat) (l.getD i KGl.z).e && (i == 0 || Op.bytesLess (l.getD (i - 1) KGl.z).s.toList (l.getD i KGl.z).s.toList))
def objB (x : Ob) : Bool := (List.range x.ss.length).all (okSe x.ss) && ((List.range x.gs.length).all (okGl x.ss.length x.gs) && (decide (x.ss.length ≤ 8) && decide (x.gs.length ≤ 20)))
theorem range_no {f : Nat → Bool} {n i : Nat} (hi : i < n) (h : f i = false) : (List.range n).all f = false := by
 rw [List.all_eq_false]
 exact ⟨i, List.mem_range.2 hi, by rw [h]; decide⟩
theorem range_yes {f : Nat → Bool} {n : Nat} (h : ∀ i, i < n → f i = true) : (List.range n).all f = true := by
 rw [List.all_eq_true]
 intro i hi
 exact h i (List.mem_range.1 hi)
theorem all_no {l : List Ex} {f : Ex → Bool} {j : Nat} (hj : j < l.length) (h : f (xAt l j) = false) : l.all f = false := by
 rw [List.all_eq_false]
 exact ⟨xAt l j, xAt_mem hj, by rw [h]; decide⟩
theorem all_yes {l : List Ex} {f : Ex → Bool} (h : ∀ j, j < l.length → f (xAt l j) = true) : l.all f = true := by
 rw [List.all_eq_true]
 intro x hx
 obtain ⟨j, hj, rfl⟩ := List.getElem_of_mem hx
 have := h j hj
 rwa [xAt_get hj] at this
theorem objS (x : Ob) (p : Po) (w : World) (hr : KOb.rd w 0 x p) (hz : x.zz ≤ 1048576) : Calls Tryd.prog 5 #[.agg (KOb.cs x p).toArray] w fun r w' => r = .returned (.bool (objB x)) ∧ Below w.heap.size w w' := by
 obtain ⟨⟨pa, pac⟩, ⟨pb, pbc⟩⟩ := p
 show Calls Tryd.prog 5 #[.agg #[.slice pa x.ss.length pac, .slice pb x.gs.length pbc]] w _
 have hbW := below_new w (.cells #[.slice pa x.ss.length pac, .slice pb x.gs.length pbc] 31)
 have hs := hr.1.later hbW
 have hg := hr.2.later hbW
 have R0 := heap_alloc_new w (.cells #[.slice pa x.ss.length pac, .slice pb x.gs.length pbc] 31)
 obtain ⟨W, hW⟩ : ∃ W, w.alloc (.cells #[.slice pa x.ss.length pac, .slice pb x.gs.length pbc] 31) = W := ⟨_, rfl⟩
 rw [hW] at hbW hs hg R0
 obtain ⟨z, hz0⟩ : ∃ z : Sub W.heap.size W, w.alloc (.cells #[.slice pa x.ss.length pac, .slice pb x.gs.length pbc] 31) = z.w := ⟨⟨W, Below.refl _ _⟩, hW⟩
 have G0 : ∀ y : Sub W.heap.size W, y.w.cell? ⟨w.heap.size, 0, none⟩ = _ := fun y => cellb y.h (Lib.cell_of_heap R0 0)
 have G1 : ∀ y : Sub W.heap.size W, y.w.cell? ⟨w.heap.size, 1, none⟩ = _ := fun y => cellb y.h (Lib.cell_of_heap R0 1)
 obtain ⟨ns, hns⟩ : ∃ ns, x.ss.length = ns := ⟨_, rfl⟩
 obtain ⟨ng, hng⟩ : ∃ ng, x.gs.length = ng := ⟨_, rfl⟩
 rw [hns, hng] at hz0 ⊢
 clear hW R0
 go_enter Tryd.func5, Tryd.ntmps5
 have HS := hide hs
 have HG := hide hg
 have hnl : ns ≤ 1048576 := by have := (Ob.small_of hz).ns; omega
 have hgl : ng ≤ 1048576 := by have := (Ob.small_of hz).ng; omega
 have WS := hide (fun i (hi : i < x.ss.length) j (hj : j < (x.ss.getD i KSe.z).l.length) => (show (xAt (x.ss.getD i KSe.z).l j).sz ≤ 1048576 from by
  have h1 := (Ob.small_of hz).s i hi
  have h2 := sz_is (x.ss.getD i KSe.z).e
  have h3 : (xAt (x.ss.getD i KSe.z).l j).sz ≤ szX (x.ss.getD i KSe.z).l := sz_part hj
  have h4 : (x.ss.getD i KSe.z).e.l = (x.ss.getD i KSe.z).l := rfl
  rw [h4] at h2
  omega))
 have WL := hide (fun i (hi : i < x.ss.length) => (show (x.ss.getD i KSe.z).l.length ≤ 1048576 ∧ (x.ss.getD i KSe.z).s.size ≤ 1048576 from by
  have h0 : sumV Se.zz x.ss + sumV Gl.zz x.gs ≤ 1048576 := hz
  unfold sumV at h0
  have h1 : (x.ss.getD i KSe.z).zz ≤ _ := sum_at Se.zz KSe.z x.ss i hi
  have h2 : (x.ss.getD i KSe.z).zz = (x.ss.getD i KSe.z).s.size + ((x.ss.getD i KSe.z).l.length + szX (x.ss.getD i KSe.z).l) := rfl
  omega))
 have HB := hide (fun u : Sub W.heap.size W => hbW.trans (u.h.mono hbW.size))
 have GS := hide (fun i (hi : i < x.gs.length) => (show (x.gs.getD i KGl.z).e.sz ≤ 1048576 ∧ (x.gs.getD i KGl.z).s.size ≤ 1048576 from by
  have h0 : sumV Se.zz x.ss + sumV Gl.zz x.gs ≤ 1048576 := hz
  unfold sumV at h0
  have h1 : (x.gs.getD i KGl.z).zz ≤ _ := sum_at Gl.zz KGl.z x.gs i hi
  have h2 : (x.gs.getD i KGl.z).zz = (x.gs.getD i KGl.z).s.size + (x.gs.getD i KGl.z).e.sz := rfl
  omega))
 obtain ⟨D, hD⟩ : ∃ D, objB x = D := ⟨_, rfl⟩
 have DN1 := hide (fun i (hi : i < ns) (h : okSe x.ss i = false) => (show D = false from by rw [← hD]; unfold objB; rw [range_no (by omega) h, Bool.false_and]))
 have DN2 := hide (fun (h1 : ∀ i, i < ns → okSe x.ss i = true) i (hi : i < ng) (h : okGl ns x.gs i = false) => (show D = false from by rw [← hD]; unfold objB; rw [hns, hng, range_yes h1, range_no hi h, Bool.false_and, Bool.and_false]))
 have DY := hide (fun (h1 : ∀ i, i < ns → okSe x.ss i = true) (h2 : ∀ i, i < ng → okGl ns x.gs i = true) => (show D = (decide (ns ≤ 8) && decide (ng ≤ 20)) from by rw [← hD]; unfold objB; rw [hns, hng, range_yes h1, range_yes h2, Bool.true_and, Bool.true_and]))
 rw [hD]
 clear hr hz hs hg hD hbW
 have ne := Sub.ne W.heap.size W
 have HZ := hide (Nat.le_refl W.heap.size)
 generalize x.gs = gs at *
 generalize x.ss = l at *
 go_wp2
 go_loopw [4] (fun iv wr => ∃ (i : Nat) (y : Sub W.heap.size W), i ≤ ns ∧ iv = .int .i64 i ∧ wr = y.w ∧ Hid (∀ j, j < i → okSe l j = true)) (fun iv _ => ns - (intOf iv).toNat)
 case atStart => exact ⟨0, z, Nat.zero_le _, rfl, rfl, fun j hj => by omega⟩
 case round =>
  obtain ⟨i, y, hi, rfl, rfl, hd⟩ := hrel
  have e0 := G0 y
  by_cases hlt : i < ns
  ·
   have hil : i < l.length := by omega
   obtain ⟨g, off, rfl, _, hg, ra⟩ := (uh HS).resolve_left (fun e => by rw [e] at hns; simp at hns; omega)
   obtain ⟨⟨qb, qc⟩, c1, c2⟩ := ra i hil
   obtain ⟨nm, hnm⟩ : ∃ nm : Nat → ByteArray, ∀ j, (l.getD j KSe.z).s = nm j := ⟨_, fun _ => rfl⟩
   have NM : ∀ j, j < ns → ∀ u : Sub W.heap.size W, u.w.cell? ⟨g, off + j * 3, none⟩ = some (.string (nm j)) := fun j hj u => by
    obtain ⟨q', c1', _⟩ := ra j (by omega)
    rw [← hnm]
    exact cellb u.h (c1' 0 _ rfl)
   have K1 := hide (fun k (hk : k < i) (h : ((nm k).toList == (nm i).toList) = true) => (okSe_no1 (l := l) (i := i) (k := k) hk (by rw [hnm, hnm]; exact h)))
   have K2 := hide (fun (h : ∀ k, k < i → ((nm k).toList == (nm i).toList) = false) => (okSe_nm (l := l) (i := i) (fun k hk => by rw [hnm, hnm]; exact h k hk)))
   have wl := uh WL i hil
   have ws := hide (uh WS i hil)
   rw [hnm] at K2 wl
   have d0 : y.w.cell? ⟨g, off + i * 3, none⟩ = some (.string (nm i)) := by rw [← hnm]; exact cellb y.h (c1 0 _ rfl)
   have d1 : y.w.cell? ⟨g, off + i * 3 + 1, none⟩ = some (.bool (l.getD i KSe.z).o) := cellb y.h (c1 1 _ rfl)
   have d2 : y.w.cell? ⟨g, off + i * 3 + 2, none⟩ = some (.slice qb (l.getD i KSe.z).l.length qc) := cellb y.h (c1 2 _ rfl)
   have RD := hide (show RdX W 0 ⟨0, 0, E0, (l.getD i KSe.z).l⟩ qb from c2)
   generalize (l.getD i KSe.z).o = oi at *
   generalize (l.getD i KSe.z).l = wds at *
   obtain ⟨lw, hlw⟩ : ∃ lw, wds.length = lw := ⟨_, rfl⟩
   rw [hlw] at d2 wl K2
   have bB := below_new y.w (.cells #[.string (nm i), .bool oi, .slice qb lw qc] 39)
   have rB := heap_alloc_new y.w (.cells #[.string (nm i), .bool oi, .slice qb lw qc] 39)
   obtain ⟨Y, hY⟩ : ∃ Y, y.w.alloc (.cells #[.string (nm i), .bool oi, .slice qb lw qc] 39) = Y := ⟨_, rfl⟩
   rw [hY] at bB rB
   have hWY : Below W.heap.size W Y := y.h.trans (bB.mono y.h.size)
   obtain ⟨v, hv⟩ : ∃ v : Sub Y.heap.size Y, y.w.alloc (.cells #[.string (nm i), .bool oi, .slice qb lw qc] 39) = v.w := ⟨⟨Y, Below.refl _ _⟩, hY⟩
   have F0 : ∀ u : Sub Y.heap.size Y, u.w.cell? ⟨w.heap.size, 0, none⟩ = some (.slice (some ⟨g, off, none⟩) ns pac) := fun u => by have := G0 ⟨u.w, hWY.trans (u.h.mono hWY.size)⟩; rw [hns] at this; exact this
   have F1 : ∀ u : Sub Y.heap.size Y, u.w.cell? ⟨y.w.heap.size, 0, none⟩ = some (.string (nm i)) := fun u => cellb u.h (Lib.cell_of_heap rB 0)
   have F2 : ∀ u : Sub Y.heap.size Y, u.w.cell? ⟨y.w.heap.size, 2, none⟩ = some (.slice qb lw qc) := fun u => cellb u.h (Lib.cell_of_heap rB 2)
   have FN : ∀ j, j < ns → ∀ u : Sub Y.heap.size Y, u.w.cell? ⟨g, off + j * 3, none⟩ = some (.string (nm j)) := fun j hj u => NM j hj ⟨u.w, hWY.trans (u.h.mono hWY.size)⟩
   have BL := hide (fun u : Sub Y.heap.size Y => (show Below w.heap.size w u.w from uh HB ⟨u.w, hWY.trans (u.h.mono hWY.size)⟩))
   have DN := hide (fun h => uh DN1 i hlt h)
   have LIFT := hide (fun u : Sub Y.heap.size Y => (show ∃ y2 : Sub W.heap.size W, u.w = y2.w from ⟨⟨u.w, hWY.trans (u.h.mono hWY.size)⟩, rfl⟩))
   have ne2 := Sub.ne Y.heap.size Y
   have HZ2 := hide (Nat.le_refl Y.heap.size)
   have FNH := hide FN
   have F0H := hide F0
   have NA := hide (fun u : Sub Y.heap.size Y => nameS_any (nm i) u.w (by omega))
   have RX := hide (fun u : Sub Y.heap.size Y => (uh RD).later (hWY.trans (u.h.mono hWY.size)))
   have HD := hide hd.out
   clear rB bB ra c1 c2 NM hY hWY FN RD hd
   go_wp2
   go_loopw [6] (fun kv wr => ∃ (k : Nat) (u : Sub Y.heap.size Y), k ≤ i ∧ kv = .int .i64 k ∧ wr = u.w ∧ Hid (∀ j, j < k → ((nm j).toList == (nm i).toList) = false)) (fun kv _ => i - (intOf kv).toNat)
   case atStart => exact ⟨0, v, Nat.zero_le _, rfl, rfl, fun j hj => by omega⟩
   case round =>
    obtain ⟨k, u, hk, rfl, rfl, hdk⟩ := hrel
    by_cases hlk : k < i
    ·
     have nk : ∀ s : Sub Y.heap.size Y, s.w.cell? ⟨g, off + k * 3, none⟩ = some (.string (nm k)) := uh FNH k (by omega)
     have K1' := hide (uh K1 k hlk)
     have kn : k < ns := by omega
     have DK := hide (show ((nm k).toList == (nm i).toList) = false → ∀ j, j < k + 1 → ((nm j).toList == (nm i).toList) = false from fun h j hj => by
      by_cases e : j = k
      · subst e; exact h
      · exact hdk.out j (by omega))
     clear hdk
     generalize nm k = sk at *
     generalize nm i = si at *
     cases hq : (sk.toList == si.toList)
     ·
      have E := hide (uh DK hq)
      clear DK K1'
      go_wp2_with fail
      refine wp_region_sub u (by kernel_rfl) (by kernel_rfl) ?_
      repeat (go_big_quiet_step (first | fail))
      refine wpQuiet_nil ?_
      intro s
      go_wp2
      go_roundw
      case rel => exact ⟨k + 1, s, by omega, by go_num, rfl, uh E⟩
      case measure => simp [intOf]; omega
     ·
      have E := hide (uh DN (uh K1' hq))
      clear DK K1'
      go_wp2_with fail
      refine wp_region_sub u (by kernel_rfl) (by kernel_rfl) ?_
      repeat (go_big_quiet_step (first | fail))
      refine wpQuiet_nil ?_
      intro s
      go_wp2
      go_ret
      exact ⟨by first | rfl | (rw [uh E]; rfl), uh BL s⟩
    ·
     obtain rfl : k = i := by omega
     have KK := hide (uh K2 hdk.out)
     have NA1 := hide (uh NA u)
     have f1 := F1 u
     have f2 := F2 u
     clear hdk K1 K2 NA FNH F0H
     generalize nm k = si at *
     generalize nameB si = nb at *
     cases nb
     ·
      have E := hide (uh DN (show okSe l k = false from uh KK))
      clear KK
      go_wp2_with fail
      refine (Sub.call (uh HZ2) (uh NA1)).mono ?_
      rintro r _ ⟨rfl, u2, rfl⟩
      go_wp2
      go_ret
      exact ⟨by first | rfl | (rw [uh E]; rfl), uh BL u2⟩
     ·
      by_cases hl256 : lw ≤ 256
      ·
       have h256 : ¬ (256 : Int) < (lw : Int) := by omega
       have h256d : decide ((256 : Int) < (lw : Int)) = false := decide_eq_false h256
       have KW := hide (show okSe l k = wds.all (rgtB (l.length : Nat)) from by have := uh KK; rw [decide_eq_true hl256] at this; simpa using this)
       clear KK
       go_wp2_with fail
       refine (Sub.call (uh HZ2) (uh NA1)).mono ?_
       rintro r _ ⟨rfl, u2, rfl⟩
       have f2' := F2 u2
       have WS2 := hide (fun m (hm : m < lw) => uh ws m (by omega))
       have NO := hide (fun m (hm : m < lw) (hf : rgtB (ns : Nat) (xAt wds m) = false) => (show okSe l k = false from (uh KW).trans (all_no (j := m) (show m < wds.length by omega) (by rw [hns]; exact hf))))
       have YES := hide (fun (h : ∀ m, m < lw → rgtB (ns : Nat) (xAt wds m) = true) => (show okSe l k = true from (uh KW).trans (all_yes (fun m hm => by rw [hns]; exact h m (by omega)))))
       clear ws KW f2'
       go_wp2
       go_loopw [7] (fun jv wr => ∃ (j : Nat) (u : Sub Y.heap.size Y), j ≤ lw ∧ jv = .int .i64 j ∧ wr = u.w ∧ Hid (∀ m, m < j → rgtB (ns : Nat) (xAt wds m) = true)) (fun jv _ => lw - (intOf jv).toNat)
       case atStart => exact ⟨0, u2, Nat.zero_le _, rfl, rfl, fun j hj => by omega⟩
       case round =>
        obtain ⟨j, u3, hj, rfl, rfl, hdj⟩ := hrel
        have f3 := F2 u3
        by_cases hlj : j < lw
        ·
         obtain ⟨wg, woff, rfl, _, wgl, wra⟩ := ((RdX_eq _ _ _ _).1 (uh RX u3)).resolve_left (fun e => by have e' : wds = [] := e; rw [e'] at hlw; simp at hlw; omega)
         obtain ⟨c0, c1, c2, c, cp, c3, c4⟩ := wra j (by show j < wds.length; omega)
         rw [show xAt (Ex.mk 0 0 E0 wds).l j = xAt wds j from rfl] at c0 c1 c2 c3 c4
         have RC := hide (rgtS (xAt wds j) c cp (ns : Nat) u3.w c4 (uh WS2 j hlj))
         have NO1 := hide (uh NO j hlj)
         have Y1 := hide (show rgtB (ns : Nat) (xAt wds j) = true → ∀ m, m < j + 1 → rgtB (ns : Nat) (xAt wds m) = true from fun h m hm => by
          by_cases e : m = j
          · subst e; exact h
          · exact hdj.out m (by omega))
         unfold Ex.cs at RC
         clear hdj wra c4 RX NO YES WS2
         generalize rgtB (ns : Nat) (xAt wds j) = T at *
         generalize (xAt wds j).k = xk at *
         generalize (xAt wds j).n = xn at *
         generalize (xAt wds j).s = xs at *
         generalize (xAt wds j).l.length = xl at *
         cases T
         ·
          have E := hide (uh DN (uh NO1 rfl))
          clear NO1 Y1
          go_wp2_with fail
          refine (Sub.call (uh HZ2) (uh RC)).mono ?_
          rintro r _ ⟨rfl, u4, rfl⟩
          go_wp2
          go_ret
          exact ⟨by first | rfl | (rw [uh E]; rfl), uh BL u4⟩
         ·
          have E := hide (uh Y1 rfl)
          clear NO1 Y1
          go_wp2_with fail
          refine (Sub.call (uh HZ2) (uh RC)).mono ?_
          rintro r _ ⟨rfl, u4, rfl⟩
          go_wp2
          go_roundw
          case rel => exact ⟨j + 1, u4, by omega, by go_num, rfl, uh E⟩
          case measure => simp [intOf]; omega
        ·
         obtain rfl : j = lw := by omega
         have E := hide (uh YES hdj.out)
         obtain ⟨y2, hy2⟩ := uh LIFT u3
         have HY2 := hide hy2
         clear hy2
         have DD := hide (show ∀ m, m < k + 1 → okSe l m = true from fun m hm => by
          by_cases e : m = k
          · subst e; exact uh E
          · exact uh HD m (by omega))
         clear hdj NO YES WS2 RX
         go_wp2
         go_roundw
         case rel => exact ⟨k + 1, y2, by omega, by go_num, uh HY2, uh DD⟩
         case measure => simp [intOf]; omega
      ·
       have h256 : (256 : Int) < (lw : Int) := by omega
       have E := hide (uh DN (show okSe l k = false from by have := uh KK; rw [decide_eq_false hl256] at this; simpa using this))
       clear KK
       go_wp2_with fail
       refine (Sub.call (uh HZ2) (uh NA1)).mono ?_
       rintro r _ ⟨rfl, u2, rfl⟩
       have f2' := F2 u2
       go_wp2
       go_ret
       exact ⟨by first | rfl | (rw [uh E]; rfl), uh BL u2⟩
  ·
   obtain rfl : i = ns := by omega
   have H1 := hide hd.out
   have DN := hide (uh DN2 hd.out)
   have DZ := hide (uh DY hd.out)
   clear hd DN1 DN2 DY WS WL HS
   go_wp2
   go_loopw [8] (fun kv wr => ∃ (k : Nat) (u : Sub W.heap.size W), k ≤ ng ∧ kv = .int .i64 k ∧ wr = u.w ∧ Hid (∀ j, j < k → okGl i gs j = true)) (fun kv _ => ng - (intOf kv).toNat)
   case atStart => exact ⟨0, y, Nat.zero_le _, rfl, rfl, fun j hj => by omega⟩
   case round =>
    obtain ⟨k, u, hk, rfl, rfl, hdk⟩ := hrel
    have g0 := G0 u
    have g1 := G1 u
    by_cases hlk : k < ng
    ·
     have hkl : k < gs.length := by omega
     obtain ⟨gg, goff, rfl, _, ggl, gra⟩ := (uh HG).resolve_left (fun e => by rw [e] at hng; simp at hng; omega)
     obtain ⟨⟨eb, ec⟩, c1, c2⟩ := gra k hkl
     obtain ⟨gn, hgn⟩ : ∃ gn : Nat → ByteArray, ∀ j, (gs.getD j KGl.z).s = gn j := ⟨_, fun _ => rfl⟩
     have hgs := uh GS k hkl
     have OKG : okGl i gs k = (nameB (gs.getD k KGl.z).s && (rgtB (i : Nat) (gs.getD k KGl.z).e && (k == 0 || Op.bytesLess (gs.getD (k - 1) KGl.z).s.toList (gs.getD k KGl.z).s.toList))) := rfl
     rw [hgn, hgn] at OKG
     rw [hgn] at hgs
     have s0 : ∀ u : Sub W.heap.size W, u.w.cell? ⟨gg, goff + k * 5, none⟩ = some (.string (gn k)) := fun u => by rw [← hgn]; exact cellb u.h (c1 0 _ rfl)
     have s1 : ∀ u : Sub W.heap.size W, u.w.cell? ⟨gg, goff + k * 5 + 1, none⟩ = some (.int .i64 (gs.getD k KGl.z).e.k) := fun u => cellb u.h (c1 1 _ rfl)
     have s2 : ∀ u : Sub W.heap.size W, u.w.cell? ⟨gg, goff + k * 5 + 2, none⟩ = some (.int .i64 (gs.getD k KGl.z).e.n) := fun u => cellb u.h (c1 2 _ rfl)
     have s3 : ∀ u : Sub W.heap.size W, u.w.cell? ⟨gg, goff + k * 5 + 3, none⟩ = some (.string (gs.getD k KGl.z).e.s) := fun u => cellb u.h (c1 3 _ rfl)
     have s4 : ∀ u : Sub W.heap.size W, u.w.cell? ⟨gg, goff + k * 5 + 4, none⟩ = some (.slice eb (gs.getD k KGl.z).e.l.length ec) := fun u => cellb u.h (c1 4 _ rfl)
     have PR := hide (fun m (hm : m < ng) (u : Sub W.heap.size W) => (show u.w.cell? ⟨gg, goff + m * 5, none⟩ = some (.string (gn m)) from by
      obtain ⟨q', c1', _⟩ := gra m (by omega)
      rw [← hgn]
      exact cellb u.h (c1' 0 _ rfl)))
     have NA := hide (fun u : Sub W.heap.size W => nameS_any (gn k) u.w (by omega))
     have RC := hide (fun u : Sub W.heap.size W => rgtS (gs.getD k KGl.z).e eb ec (i : Nat) u.w ((show RdX W 0 (gs.getD k KGl.z).e eb from c2).later u.h) hgs.1)
     have OKG := hide OKG
     have NO := hide (uh DN k hlk)
     have Y1 := hide (show okGl i gs k = true → ∀ j, j < k + 1 → okGl i gs j = true from fun h j hj => by
      by_cases e : j = k
      · subst e; exact h
      · exact hdk.out j (by omega))
     unfold Ex.cs at RC
     clear gra c1 c2 hgs hdk DN DZ HG GS hgn
     generalize rgtB (i : Nat) (gs.getD k KGl.z).e = rb at *
     generalize (gs.getD k KGl.z).e.k = xk at *
     generalize (gs.getD k KGl.z).e.n = xn at *
     generalize (gs.getD k KGl.z).e.s = xs at *
     generalize (gs.getD k KGl.z).e.l.length = xl at *
     generalize hnb : nameB (gn k) = nb at *
     generalize okGl i gs k = T at *
     cases nb
     ·
      have E := hide (uh NO (uh OKG))
      clear NO Y1 OKG PR
      generalize gn k = sk at *
      go_wp2_with fail
      refine wp_region_sub u (by kernel_rfl) (by kernel_rfl) ?_
      repeat (go_big_quiet_step (first | (go_at_call 11; exact Sub.call (uh HZ) (uh NA _)) | (go_at_call 12; exact Sub.call (uh HZ) (uh RC _))))
      refine wpQuiet_nil ?_
      intro s
      go_wp2
      go_ret
      exact ⟨by first | rfl | (rw [uh E]; rfl), uh HB s⟩
     cases rb
     ·
      have E := hide (uh NO (uh OKG))
      clear NO Y1 OKG PR
      generalize gn k = sk at *
      go_wp2_with fail
      refine wp_region_sub u (by kernel_rfl) (by kernel_rfl) ?_
      repeat (go_big_quiet_step (first | (go_at_call 11; exact Sub.call (uh HZ) (uh NA _)) | (go_at_call 12; exact Sub.call (uh HZ) (uh RC _))))
      refine wpQuiet_nil ?_
      intro s
      go_wp2
      go_ret
      exact ⟨by first | rfl | (rw [uh E]; rfl), uh HB s⟩
     cases k with
     | zero =>
      have E := hide (uh Y1 (uh OKG))
      have s0 : ∀ u : Sub W.heap.size W, u.w.cell? ⟨gg, goff, none⟩ = some (.string (gn 0)) := fun u => by simpa using s0 u
      have s1 : ∀ u : Sub W.heap.size W, u.w.cell? ⟨gg, goff + 1, none⟩ = some (.int .i64 xk) := fun u => by simpa using s1 u
      have s2 : ∀ u : Sub W.heap.size W, u.w.cell? ⟨gg, goff + 2, none⟩ = some (.int .i64 xn) := fun u => by simpa using s2 u
      have s3 : ∀ u : Sub W.heap.size W, u.w.cell? ⟨gg, goff + 3, none⟩ = some (.string xs) := fun u => by simpa using s3 u
      have s4 : ∀ u : Sub W.heap.size W, u.w.cell? ⟨gg, goff + 4, none⟩ = some (.slice eb xl ec) := fun u => by simpa using s4 u
      clear NO Y1 OKG PR
      generalize gn 0 = sk at *
      go_wp2_with fail
      refine wp_region_sub u (by kernel_rfl) (by kernel_rfl) ?_
      repeat (go_big_quiet_step (first | (go_at_call 11; exact Sub.call (uh HZ) (uh NA _)) | (go_at_call 12; exact Sub.call (uh HZ) (uh RC _))))
      refine wpQuiet_nil ?_
      intro s
      go_wp2
      go_roundw
      case rel => exact ⟨1, s, by omega, by go_num, rfl, uh E⟩
      case measure => simp [intOf]; omega
     | succ m =>
      have p0 : ∀ u : Sub W.heap.size W, u.w.cell? ⟨gg, goff + m * 5, none⟩ = some (.string (gn m)) := uh PR m (by omega)
      have em : ((m + 1 : Nat) : Int) - 1 = (m : Int) := by omega
      have gm : (0 : Int) < ((m + 1 : Nat) : Int) := by omega
      have OKG := hide (show T = Op.bytesLess (gn m).toList (gn (m + 1)).toList from by have := uh OKG; simpa using this)
      cases hbl : Op.bytesLess (gn m).toList (gn (m + 1)).toList
      ·
       have E := hide (uh NO ((uh OKG).trans hbl))
       clear NO Y1 OKG PR
       generalize gn (m + 1) = sk at *
       generalize gn m = sp at *
       go_wp2_with fail
       refine wp_region_sub u (by kernel_rfl) (by kernel_rfl) ?_
       repeat (go_big_quiet_step (first | (go_at_call 11; exact Sub.call (uh HZ) (uh NA _)) | (go_at_call 12; exact Sub.call (uh HZ) (uh RC _))))
       refine wpQuiet_nil ?_
       intro s
       go_wp2
       go_ret
       exact ⟨by first | rfl | (rw [uh E]; rfl), uh HB s⟩
      ·
       have E := hide (uh Y1 ((uh OKG).trans hbl))
       clear NO Y1 OKG PR
       generalize gn (m + 1) = sk at *
       generalize gn m = sp at *
       go_wp2_with fail
       refine wp_region_sub u (by kernel_rfl) (by kernel_rfl) ?_
       repeat (go_big_quiet_step (first | (go_at_call 11; exact Sub.call (uh HZ) (uh NA _)) | (go_at_call 12; exact Sub.call (uh HZ) (uh RC _))))
       refine wpQuiet_nil ?_
       intro s
       go_wp2
       go_roundw
       case rel => exact ⟨m + 1 + 1, s, by omega, by go_num, rfl, uh E⟩
       case measure => simp [intOf]; omega
    ·
     obtain rfl : k = ng := by omega
     have E := hide (uh DZ hdk.out)
     clear hdk DN DZ HG GS
     by_cases h8 : i ≤ 8
     ·
      have b8 : (i : Int) ≤ 8 := by omega
      by_cases h20 : k ≤ 20
      ·
       have b20 : (k : Int) ≤ 20 := by omega
       have V : D = true := by rw [uh E, decide_eq_true h8, decide_eq_true h20]; rfl
       go_wp2
       go_ret
       exact ⟨by first | rfl | (rw [V]; rfl), uh HB u⟩
      ·
       have b20 : ¬ (k : Int) ≤ 20 := by omega
       have V : D = false := by rw [uh E, decide_eq_false h20, Bool.and_false]
       go_wp2
       go_ret
       exact ⟨by first | rfl | (rw [V]; rfl), uh HB u⟩
     ·
      have b8 : ¬ (i : Int) ≤ 8 := by omega
      have V : D = false := by rw [uh E, decide_eq_false h8, Bool.false_and]
      go_wp2
      go_ret
      exact ⟨by first | rfl | (rw [V]; rfl), uh HB u⟩
theorem fst_lt {l : List Se} {i : Nat} {v : Int} (hi : i < l.length) (h : FstR l (l.getD i KSe.z).s v) : (v < i ∧ okSe l i = false) ∨ (¬ v < i ∧ okSe l i = (nameB (l.getD i KSe.z).s && (decide ((l.getD i KSe.z).l.length ≤ 256) && (l.getD i KSe.z).l.all (rgtB (l.length : Nat))))) := by
 rcases h with ⟨k, rfl, hk, h1, h2⟩ | ⟨rfl, h2⟩
 ·
  by_cases hki : k < i
  · exact .inl ⟨by omega, okSe_no1 hki h1⟩
  · exact .inr ⟨by omega, okSe_nm (fun j hj => h2 j (by omega))⟩
 · exact absurd (h2 i hi) (by simp)
theorem okSe_n {l : List Se} {i : Nat} (h : nameB (l.getD i KSe.z).s = false) : okSe l i = false := by
 unfold okSe
 rw [h, Bool.false_and, Bool.and_false]
theorem secOkI (x : Ob) (p : Po) (i : Nat) (hi : i < x.ss.length) (w : World) (hr : KOb.rd w 0 x p) (hz : x.zz ≤ 1048576) (ht : TabK w) : Calls Tryd.prog 15 #[.agg (KOb.cs x p).toArray, .int .i64 i] w fun r w' => r = .returned (.bool (okSe x.ss i)) ∧ Below w.heap.size w w' := by
 obtain ⟨⟨pa, pac⟩, ⟨pb, pbc⟩⟩ := p
 show Calls Tryd.prog 15 #[.agg #[.slice pa x.ss.length pac, .slice pb x.gs.length pbc], .int .i64 i] w _
 have hbW := below_new w (.cells #[.slice pa x.ss.length pac, .slice pb x.gs.length pbc] 31)
 have hs := hr.1.later hbW
 have R0 := heap_alloc_new w (.cells #[.slice pa x.ss.length pac, .slice pb x.gs.length pbc] 31)
 have htW := ht.next hbW
 have hnl : x.ss.length ≤ 1048576 := by have := (Ob.small_of hz).ns; omega
 have WS : ∀ j, j < (x.ss.getD i KSe.z).l.length → (xAt (x.ss.getD i KSe.z).l j).sz ≤ 1048576 := fun j hj => by
  have h1 := (Ob.small_of hz).s i hi
  have h2 := sz_is (x.ss.getD i KSe.z).e
  have h3 : (xAt (x.ss.getD i KSe.z).l j).sz ≤ szX (x.ss.getD i KSe.z).l := sz_part hj
  have h4 : (x.ss.getD i KSe.z).e.l = (x.ss.getD i KSe.z).l := rfl
  rw [h4] at h2
  omega
 have WL : (x.ss.getD i KSe.z).l.length ≤ 1048576 ∧ (x.ss.getD i KSe.z).s.size ≤ 1048576 := by
  have h0 : sumV Se.zz x.ss + sumV Gl.zz x.gs ≤ 1048576 := hz
  unfold sumV at h0
  have h1 : (x.ss.getD i KSe.z).zz ≤ _ := sum_at Se.zz KSe.z x.ss i hi
  have h2 : (x.ss.getD i KSe.z).zz = (x.ss.getD i KSe.z).s.size + ((x.ss.getD i KSe.z).l.length + szX (x.ss.getD i KSe.z).l) := rfl
  omega
 obtain ⟨W, hW⟩ : ∃ W, w.alloc (.cells #[.slice pa x.ss.length pac, .slice pb x.gs.length pbc] 31) = W := ⟨_, rfl⟩
 rw [hW] at hbW hs R0 htW
 have G0 := Lib.cell_of_heap R0 0
 clear R0 hr ht hz
 generalize x.gs.length = ng at *
 generalize hl : x.ss = l at *
 have FR := hide (fun v (h : FstR l (l.getD i KSe.z).s v) => fst_lt (i := i) (by omega) h)
 have NM := hide (okSe_n (l := l) (i := i))
 obtain ⟨g, off, rfl, _, hg, ra⟩ := hs.resolve_left (fun e => by rw [e] at hi; simp at hi)
 have HSS := hide hs
 obtain ⟨⟨qb, qc⟩, c1, c2⟩ := ra i hi
 have d0 : W.cell? ⟨g, off + i * 3, none⟩ = some (.string (l.getD i KSe.z).s) := c1 0 _ rfl
 have d1 : W.cell? ⟨g, off + i * 3 + 1, none⟩ = some (.bool (l.getD i KSe.z).o) := c1 1 _ rfl
 have d2 : W.cell? ⟨g, off + i * 3 + 2, none⟩ = some (.slice qb (l.getD i KSe.z).l.length qc) := c1 2 _ rfl
 have RD := hide (show RdX W 0 ⟨0, 0, E0, (l.getD i KSe.z).l⟩ qb from c2)
 obtain ⟨T, hT⟩ : ∃ T, okSe l i = T := ⟨_, rfl⟩
 rw [hT] at FR NM ⊢
 clear ra c1 c2 hs hT
 generalize (l.getD i KSe.z).s = si at *
 generalize (l.getD i KSe.z).o = oi at *
 generalize hwds : (l.getD i KSe.z).l = wds at *
 clear hwds
 obtain ⟨lw, hlw⟩ : ∃ lw, wds.length = lw := ⟨_, rfl⟩
 obtain ⟨ns, hns⟩ : ∃ ns, l.length = ns := ⟨_, rfl⟩
 rw [hlw] at d2 WS WL FR
 rw [hns] at hW hnl hi FR G0 ⊢
 -- the section's box
 have bB := below_new W (.cells #[.string si, .bool oi, .slice qb lw qc] 39)
 have rB := heap_alloc_new W (.cells #[.string si, .bool oi, .slice qb lw qc] 39)
 obtain ⟨Y, hY⟩ : ∃ Y, W.alloc (.cells #[.string si, .bool oi, .slice qb lw qc] 39) = Y := ⟨_, rfl⟩
 rw [hY] at bB rB
 have hwY : Below w.heap.size w Y := hbW.trans (bB.mono hbW.size)
 have F0 : ∀ u : Sub Y.heap.size Y, u.w.cell? ⟨w.heap.size, 0, none⟩ = some (.slice (some ⟨g, off, none⟩) ns pac) := fun u => cellb (bB.trans (u.h.mono bB.size)) G0
 have F1 : ∀ u : Sub Y.heap.size Y, u.w.cell? ⟨W.heap.size, 0, none⟩ = some (.string si) := fun u => cellb u.h (Lib.cell_of_heap rB 0)
 have F2 : ∀ u : Sub Y.heap.size Y, u.w.cell? ⟨W.heap.size, 2, none⟩ = some (.slice qb lw qc) := fun u => cellb u.h (Lib.cell_of_heap rB 2)
 have NA := hide (fun u : Sub Y.heap.size Y => nameI_any si u.w (by omega) (htW.next (bB.trans (u.h.mono bB.size))))
 have SA := hide (fun u : Sub Y.heap.size Y => secAtI l (some ⟨g, off, none⟩) ns pac si u.w ((uh HSS).later (bB.trans (u.h.mono bB.size))) hns hnl)
 have RX := hide (fun u : Sub Y.heap.size Y => (uh RD).later (bB.trans (u.h.mono bB.size)))
 have TB := hide (fun u : Sub Y.heap.size Y => htW.next (bB.trans (u.h.mono bB.size)))
 have BL := hide (fun u : Sub Y.heap.size Y => (show Below w.heap.size w u.w from hwY.trans (u.h.mono hwY.size)))
 have ne := Sub.ne Y.heap.size Y
 have HZ := hide (Nat.le_refl Y.heap.size)
 obtain ⟨v, hv⟩ : ∃ v : Sub Y.heap.size Y, W.alloc (.cells #[.string si, .bool oi, .slice qb lw qc] 39) = v.w := ⟨⟨Y, Below.refl _ _⟩, hY⟩
 clear bB rB hwY hY RD HSS htW hbW
 cases hnb : nameB si with
 | false =>
  have V := hide (uh NM hnb)
  have NA1 := hide (uh NA v)
  rw [hnb] at NA1
  clear FR NM
  go_enter Tryd.func15, Tryd.ntmps15
  go_wp2_with (go_at_call 30; refine (uh NA1).mono ?_; rintro r _ ⟨rfl, rfl⟩)
  go_ret
  exact ⟨by first | rfl | (rw [uh V]; rfl), uh BL v⟩
 | true =>
  have NA1 := hide (uh NA v)
  rw [hnb] at NA1
  rw [hnb] at FR
  have SA1 := hide (uh SA v)
  have f0 := F0 v
  have f1 := F1 v
  clear NM
  go_enter Tryd.func15, Tryd.ntmps15
  go_wp2_with (go_at_call 30; refine (uh NA1).mono ?_; rintro r _ ⟨rfl, rfl⟩)
  refine (uh SA1).mono ?_
  rintro r w2 ⟨vv, rfl, hvv, hb⟩
  obtain ⟨u, rfl⟩ : ∃ u : Sub Y.heap.size Y, w2 = u.w := ⟨⟨w2, v.h.trans (hb.mono v.h.size)⟩, rfl⟩
  have f2 := F2 u
  clear hb SA1 NA1
  rcases uh FR vv hvv with ⟨hlt, hV⟩ | ⟨hlt, hV⟩
  ·
   have V := hide hV
   clear hV hvv FR
   go_wp2
   go_ret
   exact ⟨by first | rfl | (rw [uh V]; rfl), uh BL u⟩
  ·
   by_cases hl256 : lw ≤ 256
   ·
    have h256 : ¬ (256 : Int) < (lw : Int) := by omega
    have KW := hide (show T = wds.all (rgtB (ns : Nat)) from by rw [decide_eq_true hl256] at hV; simpa using hV)
    clear hV hvv FR
    have WS2 := hide (fun m (hm : m < lw) => WS m hm)
    have NO := hide (fun m (hm : m < lw) (hf : rgtB (ns : Nat) (xAt wds m) = false) => (show T = false from (uh KW).trans (all_no (j := m) (show m < wds.length by omega) hf)))
    have YES := hide (fun (h : ∀ m, m < lw → rgtB (ns : Nat) (xAt wds m) = true) => (show T = true from (uh KW).trans (all_yes (fun m hm => h m (by omega)))))
    clear WS KW SA NA d0 d1 d2 G0 hv
    go_wp2
    go_loopw [35] (fun jv wr => ∃ (j : Nat) (u : Sub Y.heap.size Y), j ≤ lw ∧ jv = .int .i64 j ∧ wr = u.w ∧ Hid (∀ m, m < j → rgtB (ns : Nat) (xAt wds m) = true)) (fun jv _ => lw - (intOf jv).toNat)
    case atStart => exact ⟨0, u, Nat.zero_le _, rfl, rfl, fun j hj => by omega⟩
    case round =>
     obtain ⟨j, u3, hj, rfl, rfl, hdj⟩ := hrel
     by_cases hlj : j < lw
     ·
      obtain ⟨wg, woff, rfl, _, wgl, wra⟩ := ((RdX_eq _ _ _ _).1 (uh RX u3)).resolve_left (fun e => by have e' : wds = [] := e; rw [e'] at hlw; simp at hlw; omega)
      obtain ⟨c0, c1, c2, c, cp, c3, c4⟩ := wra j (by show j < wds.length; omega)
      rw [show xAt (Ex.mk 0 0 E0 wds).l j = xAt wds j from rfl] at c0 c1 c2 c3 c4
      have bE := below_new u3.w (.cells #[.int .i64 (xAt wds j).k, .int .i64 (xAt wds j).n, .string (xAt wds j).s, .slice c (xAt wds j).l.length cp] 43)
      have rE := heap_alloc_new u3.w (.cells #[.int .i64 (xAt wds j).k, .int .i64 (xAt wds j).n, .string (xAt wds j).s, .slice c (xAt wds j).l.length cp] 43)
      obtain ⟨v3, hv3⟩ : ∃ v3 : Sub Y.heap.size Y, u3.w.alloc (.cells #[.int .i64 (xAt wds j).k, .int .i64 (xAt wds j).n, .string (xAt wds j).s, .slice c (xAt wds j).l.length cp] 43) = v3.w := ⟨⟨_, u3.h.trans (bE.mono u3.h.size)⟩, rfl⟩
      rw [hv3] at bE rE
      have k0 := Lib.cell_of_heap rE 0
      have k1 := Lib.cell_of_heap rE 1
      have k2 := Lib.cell_of_heap rE 2
      have k3 := Lib.cell_of_heap rE 3
      have f3 := F0 v3
      have RC := hide (mtoI (ns : Nat) (xAt wds j) c cp v3.w (c4.later bE) (uh WS2 j hlj) (uh TB v3))
      have NO1 := hide (uh NO j hlj)
      have Y1 := hide (show rgtB (ns : Nat) (xAt wds j) = true → ∀ m, m < j + 1 → rgtB (ns : Nat) (xAt wds m) = true from fun h m hm => by
       by_cases e : m = j
       · subst e; exact h
       · exact hdj.out m (by omega))
      unfold Ex.cs at RC
      clear hdj wra c4 RX NO YES WS2 bE rE
      generalize rgtB (ns : Nat) (xAt wds j) = Tj at *
      generalize (xAt wds j).k = xk at *
      generalize (xAt wds j).n = xn at *
      generalize (xAt wds j).s = xs at *
      generalize (xAt wds j).l.length = xl at *
      cases Tj
      ·
       have V := hide (uh NO1 rfl)
       clear NO1 Y1
       go_wp2_with (go_at_call 32; refine (Sub.call (uh HZ) (uh RC)).mono ?_; rintro r _ ⟨rfl, u4, rfl⟩)
       go_ret
       exact ⟨by first | rfl | (rw [uh V]; rfl), uh BL u4⟩
      ·
       have E := hide (uh Y1 rfl)
       clear NO1 Y1
       go_wp2_with (go_at_call 32; refine (Sub.call (uh HZ) (uh RC)).mono ?_; rintro r _ ⟨rfl, u4, rfl⟩)
       go_roundw
       case rel => exact ⟨j + 1, u4, by omega, by go_num, rfl, uh E⟩
       case measure => simp [intOf]; omega
     ·
      obtain rfl : j = lw := by omega
      have V := hide (uh YES hdj.out)
      clear hdj NO YES WS2 RX
      go_wp2
      go_ret
      exact ⟨by first | rfl | (rw [uh V]; rfl), uh BL u3⟩
   ·
    have h256 : (256 : Int) < (lw : Int) := by omega
    have V := hide (show T = false from by rw [decide_eq_false hl256] at hV; simpa using hV)
    clear hV hvv FR
    go_wp2
    go_ret
    exact ⟨by first | rfl | (rw [uh V]; rfl), uh BL u⟩
theorem okGl_0 {n : Nat} {l : List Gl} : okGl n l 0 = (nameB (l.getD 0 KGl.z).s && rgtB (n : Nat) (l.getD 0 KGl.z).e) := by
 unfold okGl
 simp
theorem okGl_s {n : Nat} {l : List Gl} {m : Nat} : okGl n l (m + 1) = (Op.bytesLess (l.getD m KGl.z).s.toList (l.getD (m + 1) KGl.z).s.toList && (nameB (l.getD (m + 1) KGl.z).s && rgtB (n : Nat) (l.getD (m + 1) KGl.z).e)) := by
 unfold okGl
 have h : ((m + 1 : Nat) == 0) = false := rfl
 rw [h, Bool.false_or, Nat.add_sub_cancel, Bool.and_comm (rgtB _ _) (Op.bytesLess _ _), ← Bool.and_assoc, Bool.and_comm (nameB _) (Op.bytesLess _ _), Bool.and_assoc]
theorem gloOkI (x : Ob) (p : Po) (i : Nat) (hi : i < x.gs.length) (w : World) (hr : KOb.rd w 0 x p) (hz : x.zz ≤ 1048576) (ht : TabK w) : Calls Tryd.prog 16 #[.agg (KOb.cs x p).toArray, .int .i64 i] w fun r w' => r = .returned (.bool (okGl x.ss.length x.gs i)) ∧ Below w.heap.size w w' := by
 obtain ⟨⟨pa, pac⟩, ⟨pb, pbc⟩⟩ := p
 show Calls Tryd.prog 16 #[.agg #[.slice pa x.ss.length pac, .slice pb x.gs.length pbc], .int .i64 i] w _
 have hbW := below_new w (.cells #[.slice pa x.ss.length pac, .slice pb x.gs.length pbc] 31)
 have hs := hr.2.later hbW
 have R0 := heap_alloc_new w (.cells #[.slice pa x.ss.length pac, .slice pb x.gs.length pbc] 31)
 have htW := ht.next hbW
 have hnl : x.ss.length ≤ 1048576 := by have := (Ob.small_of hz).ns; omega
 have hgl : x.gs.length ≤ 1048576 := by have := (Ob.small_of hz).ng; omega
 have GS : (x.gs.getD i KGl.z).e.sz ≤ 1048576 ∧ (x.gs.getD i KGl.z).s.size ≤ 1048576 := by
  have h0 : sumV Se.zz x.ss + sumV Gl.zz x.gs ≤ 1048576 := hz
  unfold sumV at h0
  have h1 : (x.gs.getD i KGl.z).zz ≤ _ := sum_at Gl.zz KGl.z x.gs i hi
  have h2 : (x.gs.getD i KGl.z).zz = (x.gs.getD i KGl.z).s.size + (x.gs.getD i KGl.z).e.sz := rfl
  omega
 obtain ⟨W, hW⟩ : ∃ W, w.alloc (.cells #[.slice pa x.ss.length pac, .slice pb x.gs.length pbc] 31) = W := ⟨_, rfl⟩
 rw [hW] at hbW hs R0 htW
 have G0 := Lib.cell_of_heap R0 0
 have G1 := Lib.cell_of_heap R0 1
 clear R0 hr ht hz
 generalize x.ss.length = ns at *
 generalize x.gs = l at *
 obtain ⟨g, off, rfl, _, hg, ra⟩ := hs.resolve_left (fun e => by rw [e] at hi; simp at hi)
 obtain ⟨⟨eb, ec⟩, c1, c2⟩ := ra i hi
 have d0 : W.cell? ⟨g, off + i * 5, none⟩ = some (.string (l.getD i KGl.z).s) := c1 0 _ rfl
 have d1 : W.cell? ⟨g, off + i * 5 + 1, none⟩ = some (.int .i64 (l.getD i KGl.z).e.k) := c1 1 _ rfl
 have d2 : W.cell? ⟨g, off + i * 5 + 2, none⟩ = some (.int .i64 (l.getD i KGl.z).e.n) := c1 2 _ rfl
 have d3 : W.cell? ⟨g, off + i * 5 + 3, none⟩ = some (.string (l.getD i KGl.z).e.s) := c1 3 _ rfl
 have d4 : W.cell? ⟨g, off + i * 5 + 4, none⟩ = some (.slice eb (l.getD i KGl.z).e.l.length ec) := c1 4 _ rfl
 have PV : ∀ m, i = m + 1 → W.cell? ⟨g, off + m * 5, none⟩ = some (.string (l.getD m KGl.z).s) := fun m hm => by
  obtain ⟨q', c1', _⟩ := ra m (by omega)
  exact c1' 0 _ rfl
 have RD := hide (show RdX W 0 (l.getD i KGl.z).e eb from c2)
 have OK0 := hide (fun (h : i = 0) => (show okGl ns l i = (nameB (l.getD i KGl.z).s && rgtB (ns : Nat) (l.getD i KGl.z).e) from by subst h; exact okGl_0))
 have OKS := hide (fun m (h : i = m + 1) => (show okGl ns l i = (Op.bytesLess (l.getD m KGl.z).s.toList (l.getD i KGl.z).s.toList && (nameB (l.getD i KGl.z).s && rgtB (ns : Nat) (l.getD i KGl.z).e)) from by subst h; exact okGl_s))
 obtain ⟨T, hT⟩ : ∃ T, okGl ns l i = T := ⟨_, rfl⟩
 rw [hT] at OK0 OKS ⊢
 obtain ⟨ng, hng⟩ : ∃ ng, l.length = ng := ⟨_, rfl⟩
 rw [hng] at hW hgl hi G1 ⊢
 clear ra c1 c2 hs hT hng
 have RC := hide (fun (wr : World) (h : Below W.heap.size W wr) => mtoI (ns : Nat) (l.getD i KGl.z).e eb ec wr ((uh RD).later h) GS.1 (htW.next h))
 have hss := GS.2
 unfold Ex.cs at RC
 generalize rgtB (ns : Nat) (l.getD i KGl.z).e = rb at *
 generalize (l.getD i KGl.z).e.l.length = xl at *
 generalize (l.getD i KGl.z).e.k = xk at *
 generalize (l.getD i KGl.z).e.n = xn at *
 generalize (l.getD i KGl.z).e.s = xs at *
 clear RD GS
 generalize (l.getD i KGl.z).s = sk at *
 have ROW := fun j => (l.getD j KGl.z).s
 clear ROW
 -- its box
 have bB := below_new W (.cells #[.string sk, .int .i64 xk, .int .i64 xn, .string xs, .slice eb xl ec] 45)
 have rB := heap_alloc_new W (.cells #[.string sk, .int .i64 xk, .int .i64 xn, .string xs, .slice eb xl ec] 45)
 obtain ⟨Y, hY⟩ : ∃ Y, W.alloc (.cells #[.string sk, .int .i64 xk, .int .i64 xn, .string xs, .slice eb xl ec] 45) = Y := ⟨_, rfl⟩
 rw [hY] at bB rB
 have hwY : Below w.heap.size w Y := hbW.trans (bB.mono hbW.size)
 have F0 : ∀ u : Sub Y.heap.size Y, u.w.cell? ⟨w.heap.size, 0, none⟩ = some (.slice pa ns pac) := fun u => cellb (bB.trans (u.h.mono bB.size)) G0
 have F1 : ∀ u : Sub Y.heap.size Y, u.w.cell? ⟨w.heap.size, 1, none⟩ = some (.slice (some ⟨g, off, none⟩) ng pbc) := fun u => cellb (bB.trans (u.h.mono bB.size)) G1
 have f0 : ∀ u : Sub Y.heap.size Y, u.w.cell? ⟨W.heap.size, 0, none⟩ = some (.string sk) := fun u => cellb u.h (Lib.cell_of_heap rB 0)
 have f1 : ∀ u : Sub Y.heap.size Y, u.w.cell? ⟨W.heap.size, 1, none⟩ = some (.int .i64 xk) := fun u => cellb u.h (Lib.cell_of_heap rB 1)
 have f2 : ∀ u : Sub Y.heap.size Y, u.w.cell? ⟨W.heap.size, 2, none⟩ = some (.int .i64 xn) := fun u => cellb u.h (Lib.cell_of_heap rB 2)
 have f3 : ∀ u : Sub Y.heap.size Y, u.w.cell? ⟨W.heap.size, 3, none⟩ = some (.string xs) := fun u => cellb u.h (Lib.cell_of_heap rB 3)
 have f4 : ∀ u : Sub Y.heap.size Y, u.w.cell? ⟨W.heap.size, 4, none⟩ = some (.slice eb xl ec) := fun u => cellb u.h (Lib.cell_of_heap rB 4)
 have P0 := hide (fun m (hm : i = m + 1) (u : Sub Y.heap.size Y) => (show u.w.cell? ⟨g, off + m * 5, none⟩ = some (.string (l.getD m KGl.z).s) from cellb (bB.trans (u.h.mono bB.size)) (PV m hm)))
 have NA := hide (fun u : Sub Y.heap.size Y => nameI_any sk u.w (by omega) (htW.next (bB.trans (u.h.mono bB.size))))
 have RC2 := hide (fun u : Sub Y.heap.size Y => uh RC u.w (bB.trans (u.h.mono bB.size)))
 have BL := hide (fun u : Sub Y.heap.size Y => (show Below w.heap.size w u.w from hwY.trans (u.h.mono hwY.size)))
 have ne := Sub.ne Y.heap.size Y
 have HZ := hide (Nat.le_refl Y.heap.size)
 obtain ⟨u, hu⟩ : ∃ u : Sub Y.heap.size Y, W.alloc (.cells #[.string sk, .int .i64 xk, .int .i64 xn, .string xs, .slice eb xl ec] 45) = u.w := ⟨⟨Y, Below.refl _ _⟩, hY⟩
 clear bB rB hwY hY htW hbW RC PV
 cases i with
 | zero =>
  have ES := hide (uh OK0 rfl)
  have z0 : W.cell? ⟨g, off, none⟩ = some (.string sk) := by simpa using d0
  have z1 : W.cell? ⟨g, off + 1, none⟩ = some (.int .i64 xk) := by simpa using d1
  have z2 : W.cell? ⟨g, off + 2, none⟩ = some (.int .i64 xn) := by simpa using d2
  have z3 : W.cell? ⟨g, off + 3, none⟩ = some (.string xs) := by simpa using d3
  have z4 : W.cell? ⟨g, off + 4, none⟩ = some (.slice eb xl ec) := by simpa using d4
  clear d0 d1 d2 d3 d4 P0 OK0 OKS
  cases hnb : nameB sk
  ·
   have V := hide (show T = false from by have := uh ES; rw [hnb] at this; exact this)
   rw [hnb] at NA
   clear ES RC2 hnb
   go_enter Tryd.func16, Tryd.ntmps16
   go_wp2_with fail
   refine wp_region_sub u (by kernel_rfl) (by kernel_rfl) ?_
   repeat (go_big_quiet_step (first | fail))
   refine wpQuiet_nil ?_
   intro u2
   have NA1 := hide (uh NA u2)
   clear NA
   go_wp2_with (go_at_call 30; refine (uh NA1).mono ?_; rintro r _ ⟨rfl, rfl⟩)
   go_ret
   exact ⟨by first | rfl | (rw [uh V]; rfl), uh BL u2⟩
  ·
   have V := hide (show T = rb from by have := uh ES; rw [hnb] at this; exact this)
   rw [hnb] at NA
   clear ES hnb
   go_enter Tryd.func16, Tryd.ntmps16
   go_wp2_with fail
   refine wp_region_sub u (by kernel_rfl) (by kernel_rfl) ?_
   repeat (go_big_quiet_step (first | fail))
   refine wpQuiet_nil ?_
   intro u2
   have NA1 := hide (uh NA u2)
   have RC1 := hide (uh RC2 u2)
   clear NA RC2
   go_wp2_with (first | (go_at_call 30; refine (uh NA1).mono ?_; rintro r _ ⟨rfl, rfl⟩) | (go_at_call 32; refine (Sub.call (uh HZ) (uh RC1)).mono ?_; rintro r _ ⟨rfl, u3, rfl⟩))
   go_ret
   exact ⟨by first | rfl | (rw [uh V]; rfl), uh BL u3⟩
 | succ m =>
  have p0 : ∀ u : Sub Y.heap.size Y, u.w.cell? ⟨g, off + m * 5, none⟩ = some (.string (l.getD m KGl.z).s) := uh P0 m rfl
  have em : ((m + 1 : Nat) : Int) - 1 = (m : Int) := by omega
  have gm : (0 : Int) < ((m + 1 : Nat) : Int) := by omega
  have ES := hide (uh OKS m rfl)
  clear P0 OK0 OKS
  generalize (l.getD m KGl.z).s = sp at *
  cases hbl : Op.bytesLess sp.toList sk.toList
  ·
   have V := hide (show T = false from by have := uh ES; rw [hbl] at this; exact this)
   clear ES RC2 NA
   go_enter Tryd.func16, Tryd.ntmps16
   go_wp2_with fail
   refine wp_region_sub u (by kernel_rfl) (by kernel_rfl) ?_
   repeat (go_big_quiet_step (first | fail))
   refine wpQuiet_nil ?_
   intro u2
   go_wp2
   go_ret
   exact ⟨by first | rfl | (rw [uh V]; rfl), uh BL u2⟩
  ·
   have ES := hide (show T = (nameB sk && rb) from by have := uh ES; rw [hbl] at this; simpa using this)
   cases hnb : nameB sk
   ·
    have V := hide (show T = false from by have := uh ES; rw [hnb] at this; exact this)
    rw [hnb] at NA
    clear ES RC2 hnb
    go_enter Tryd.func16, Tryd.ntmps16
    go_wp2_with fail
    refine wp_region_sub u (by kernel_rfl) (by kernel_rfl) ?_
    repeat (go_big_quiet_step (first | fail))
    refine wpQuiet_nil ?_
    intro u2
    have NA1 := hide (uh NA u2)
    clear NA
    go_wp2_with (go_at_call 30; refine (uh NA1).mono ?_; rintro r _ ⟨rfl, rfl⟩)
    go_ret
    exact ⟨by first | rfl | (rw [uh V]; rfl), uh BL u2⟩
   ·
    have V := hide (show T = rb from by have := uh ES; rw [hnb] at this; exact this)
    rw [hnb] at NA
    clear ES hnb
    go_enter Tryd.func16, Tryd.ntmps16
    go_wp2_with fail
    refine wp_region_sub u (by kernel_rfl) (by kernel_rfl) ?_
    repeat (go_big_quiet_step (first | fail))
    refine wpQuiet_nil ?_
    intro u2
    have NA1 := hide (uh NA u2)
    have RC1 := hide (uh RC2 u2)
    clear NA RC2
    go_wp2_with (first | (go_at_call 30; refine (uh NA1).mono ?_; rintro r _ ⟨rfl, rfl⟩) | (go_at_call 32; refine (Sub.call (uh HZ) (uh RC1)).mono ?_; rintro r _ ⟨rfl, u3, rfl⟩))
    go_ret
    exact ⟨by first | rfl | (rw [uh V]; rfl), uh BL u3⟩
theorem objI (x : Ob) (p : Po) (w : World) (hr : KOb.rd w 0 x p) (hz : x.zz ≤ 1048576) (ht : TabK w) : Calls Tryd.prog 7 #[.agg (KOb.cs x p).toArray] w fun r w' => r = .returned (.bool (objB x)) ∧ Below w.heap.size w w' := by
 obtain ⟨⟨pa, pac⟩, ⟨pb, pbc⟩⟩ := p
 show Calls Tryd.prog 7 #[.agg #[.slice pa x.ss.length pac, .slice pb x.gs.length pbc]] w _
 have hbW := below_new w (.cells #[.slice pa x.ss.length pac, .slice pb x.gs.length pbc] 31)
 have R0 := heap_alloc_new w (.cells #[.slice pa x.ss.length pac, .slice pb x.gs.length pbc] 31)
 have hnl : x.ss.length ≤ 1048576 := by have := (Ob.small_of hz).ns; omega
 have hgl : x.gs.length ≤ 1048576 := by have := (Ob.small_of hz).ng; omega
 obtain ⟨W, hW⟩ : ∃ W, w.alloc (.cells #[.slice pa x.ss.length pac, .slice pb x.gs.length pbc] 31) = W := ⟨_, rfl⟩
 rw [hW] at hbW R0
 have SE := hide (fun (i : Nat) (hi : i < x.ss.length) (u : Sub W.heap.size W) => (show Calls Tryd.prog 15 #[.agg #[.slice pa x.ss.length pac, .slice pb x.gs.length pbc], .int .i64 i] u.w _ from secOkI x ⟨⟨pa, pac⟩, ⟨pb, pbc⟩⟩ i hi u.w (Kd.later KOb hr (hbW.trans (u.h.mono hbW.size))) hz (ht.next (hbW.trans (u.h.mono hbW.size)))))
 have GL := hide (fun (i : Nat) (hi : i < x.gs.length) (u : Sub W.heap.size W) => (show Calls Tryd.prog 16 #[.agg #[.slice pa x.ss.length pac, .slice pb x.gs.length pbc], .int .i64 i] u.w _ from gloOkI x ⟨⟨pa, pac⟩, ⟨pb, pbc⟩⟩ i hi u.w (Kd.later KOb hr (hbW.trans (u.h.mono hbW.size))) hz (ht.next (hbW.trans (u.h.mono hbW.size)))))
 have OB := hide (show objB x = ((List.range x.ss.length).all (okSe x.ss) && ((List.range x.gs.length).all (okGl x.ss.length x.gs) && (decide (x.ss.length ≤ 8) && decide (x.gs.length ≤ 20)))) from rfl)
 have G0 : ∀ u : Sub W.heap.size W, u.w.cell? ⟨w.heap.size, 0, none⟩ = _ := fun u => cellb u.h (Lib.cell_of_heap R0 0)
 have G1 : ∀ u : Sub W.heap.size W, u.w.cell? ⟨w.heap.size, 1, none⟩ = _ := fun u => cellb u.h (Lib.cell_of_heap R0 1)
 have HB := hide (fun u : Sub W.heap.size W => hbW.trans (u.h.mono hbW.size))
 obtain ⟨z, hz0⟩ : ∃ z : Sub W.heap.size W, w.alloc (.cells #[.slice pa x.ss.length pac, .slice pb x.gs.length pbc] 31) = z.w := ⟨⟨W, Below.refl _ _⟩, hW⟩
 clear hW
 have ne := Sub.ne W.heap.size W
 have HZ := hide (Nat.le_refl W.heap.size)
 clear hr hz ht R0 hbW
 generalize okGl x.ss.length x.gs = fg at *
 generalize okSe x.ss = fs at *
 generalize objB x = D at *
 generalize x.gs.length = ng at *
 generalize x.ss.length = ns at *
 have DN1 := hide (fun i (hi : i < ns) (h : fs i = false) => (show D = false from by rw [uh OB, range_no hi h, Bool.false_and]))
 have DN2 := hide (fun i (hi : i < ng) (h : fg i = false) => (show D = false from by rw [uh OB, range_no hi h, Bool.false_and, Bool.and_false]))
 by_cases h8 : ns ≤ 8
 ·
  by_cases h20 : ng ≤ 20
  ·
   have h8d : ¬ (8 : Int) < (ns : Int) := by omega
   have h20d : ¬ (20 : Int) < (ng : Int) := by omega
   have h8e : decide ((8 : Int) < (ns : Int)) = false := decide_eq_false h8d
   have h20e : decide ((20 : Int) < (ng : Int)) = false := decide_eq_false h20d
   have DY := hide (fun (h1 : ∀ i, i < ns → fs i = true) (h2 : ∀ i, i < ng → fg i = true) => (show D = true from by rw [uh OB, range_yes h1, range_yes h2, decide_eq_true h8, decide_eq_true h20]; rfl))
   clear OB
   have f0 := G0 z
   have f1 := G1 z
   go_enter Tryd.func7, Tryd.ntmps7
   go_wp2
   go_loopw [18] (fun iv wr => ∃ (i : Nat) (y : Sub W.heap.size W), i ≤ ns ∧ iv = .int .i64 i ∧ wr = y.w ∧ Hid (∀ j, j < i → fs j = true)) (fun iv _ => ns - (intOf iv).toNat)
   case atStart => exact ⟨0, z, Nat.zero_le _, rfl, rfl, fun j hj => by omega⟩
   case round =>
    obtain ⟨i, y, hi, rfl, rfl, hd⟩ := hrel
    by_cases hlt : i < ns
    ·
     have g0 := G0 y
     have g1 := G1 y
     have C := hide (uh SE i hlt y)
     have DE := hide (show fs i = true → ∀ j, j < i + 1 → fs j = true from fun h j hj => by
      by_cases e : j = i
      · subst e; exact h
      · exact hd.out j (by omega))
     have DV := hide (uh DN1 i hlt)
     clear hd
     generalize fs i = T at *
     cases T
     ·
      have V := hide (uh DV rfl)
      clear DE DV
      go_wp2_with (go_at_call 15; refine (Sub.call (uh HZ) (uh C)).mono ?_; rintro r _ ⟨rfl, y2, rfl⟩)
      go_ret
      exact ⟨by first | rfl | (rw [uh V]; rfl), uh HB y2⟩
     ·
      have E := hide (uh DE rfl)
      clear DE DV
      go_wp2_with (go_at_call 15; refine (Sub.call (uh HZ) (uh C)).mono ?_; rintro r _ ⟨rfl, y2, rfl⟩)
      go_roundw
      case rel => exact ⟨i + 1, y2, by omega, by go_num, rfl, uh E⟩
      case measure => simp [intOf]; omega
    ·
     obtain rfl : i = ns := by omega
     have H1 := hide hd.out
     clear hd
     have g0 := G0 y
     have g1 := G1 y
     clear DN1 SE
     go_wp2
     go_loopw [29] (fun iv wr => ∃ (i : Nat) (y : Sub W.heap.size W), i ≤ ng ∧ iv = .int .i64 i ∧ wr = y.w ∧ Hid (∀ j, j < i → fg j = true)) (fun iv _ => ng - (intOf iv).toNat)
     case atStart => exact ⟨0, y, Nat.zero_le _, rfl, rfl, fun j hj => by omega⟩
     case round =>
      obtain ⟨i, y, hi, rfl, rfl, hd⟩ := hrel
      by_cases hlt : i < ng
      ·
       have g0 := G0 y
       have g1 := G1 y
       have C := hide (uh GL i hlt y)
       have DE := hide (show fg i = true → ∀ j, j < i + 1 → fg j = true from fun h j hj => by
        by_cases e : j = i
        · subst e; exact h
        · exact hd.out j (by omega))
       have DV := hide (uh DN2 i hlt)
       clear hd
       generalize fg i = T at *
       cases T
       ·
        have V := hide (uh DV rfl)
        clear DE DV
        go_wp2_with (go_at_call 16; refine (Sub.call (uh HZ) (uh C)).mono ?_; rintro r _ ⟨rfl, y2, rfl⟩)
        go_ret
        exact ⟨by first | rfl | (rw [uh V]; rfl), uh HB y2⟩
       ·
        have E := hide (uh DE rfl)
        clear DE DV
        go_wp2_with (go_at_call 16; refine (Sub.call (uh HZ) (uh C)).mono ?_; rintro r _ ⟨rfl, y2, rfl⟩)
        go_roundw
        case rel => exact ⟨i + 1, y2, by omega, by go_num, rfl, uh E⟩
        case measure => simp [intOf]; omega
      ·
       obtain rfl : i = ng := by omega
       have H2 := hide hd.out
       clear hd
       have V := hide (uh DY (uh H1) (uh H2))
       clear DY
       go_wp2
       go_ret
       exact ⟨by first | rfl | (rw [uh V]; rfl), uh HB y⟩
  ·
   have h20d : (20 : Int) < (ng : Int) := by omega
   have V := hide (show D = false from by rw [uh OB, decide_eq_false h20, Bool.and_false, Bool.and_false, Bool.and_false])
   have h8d : ¬ (8 : Int) < (ns : Int) := by omega
   have h8e : decide ((8 : Int) < (ns : Int)) = false := decide_eq_false h8d
   have h20e : decide ((20 : Int) < (ng : Int)) = true := decide_eq_true h20d
   have f0 := G0 z
   have f1 := G1 z
   clear OB DN1 DN2 SE GL
   go_enter Tryd.func7, Tryd.ntmps7
   go_wp2
   go_ret
   exact ⟨by first | rfl | (rw [uh V]; rfl), uh HB z⟩
 ·
  have h8d : (8 : Int) < (ns : Int) := by omega
  have V := hide (show D = false from by rw [uh OB, decide_eq_false h8, Bool.false_and, Bool.and_false, Bool.and_false])
  have h8e : decide ((8 : Int) < (ns : Int)) = true := decide_eq_true h8d
  have f0 := G0 z
  have f1 := G1 z
  clear OB DN1 DN2 SE GL
  go_enter Tryd.func7, Tryd.ntmps7
  go_wp2
  go_ret
  exact ⟨by first | rfl | (rw [uh V]; rfl), uh HB z⟩
end Go.Proofs.YtoilipfipmoljaaDoor
